/-
  No cell of these rows narrows 'for every input' (looked for: loops, veiled, ifaces, maps, wideKeys, modest, calm, conditions, laid).
  DERIVED. THE GIVEN ROWS OF THIS SEAT. 9 by the template 'for every input the law returns true; each argument reads behind the call as it read before'; 0 by the template 'total and deterministic' (their statements: YtgfoimleoekkiaaTotals.lean).
  GIVEN WITH THE SEED: the statements are not yours to turn. If you find one false, say at which input.
  Laid BY PROGRAM, IN A SANDBOX (cutbox-rows.mjs): the forced cells as the released guide's own fill.sh prints them over the translation ccf011ade30501a7… (all of the seat's roots in one cut). By AI agents, Wed Nov 11 2026. No macro, syntax, notation, axiom, sorry.
-/
import Derived.Test.YtgfoimleoekkiaaChecked
import GoSem.Claim
import GoSem.ClaimJoined
import GoSem.ClaimMapViews
import Derived.JoinedTies
import Derived.KernelRfl
namespace Go.Proofs.Ytgfoimleoekkiaa
/- THE CELL 'sum', in the pinned program and in every row, IS THE sha256 OF THE DUMP (.gsa) THAT YtgfoimleoekkiaaProg.lean LOADS. Nothing in Lean hashes anything: it is a label: what it is worth is what the hold of that sum in a sandbox is worth. -/
noncomputable def Try.pinned : Pinned := { name := "ytgfoimleoekkiaa", sum := "ccf011ade30501a7b19a56db355a508d5c6ce9fe9334d6b1f115f90996874b4a", checked := Try.checked }
namespace Rows
def none {H : Type} : Left H := { results := [], args := [] }

/-- 'laws.FnBlock': WHATEVER THE INPUT: true; the input reads as it did. -/
def fnBlockSpec : ChangeSpec := { name := "fnBlock", fn := fun _ => fun
  | [d] => { results := [.lit (.bool true)], args := [d] }
  | _ => none }
def fnBlockRow : OpenClaim := { program := "ytgfoimleoekkiaa", sum := "ccf011ade30501a7b19a56db355a508d5c6ce9fe9334d6b1f115f90996874b4a", func := "loop.example/stopgate/laws.FnBlock", spec := "fnBlock", unfollowed := true, recurses := true, apart := false }
def FnBlockSaid : Prop := fnBlockRow.holds Try.pinned (OpenSpec.ofChange fnBlockSpec)

/-- ITS FALSE NEIGHBOUR: 'it returns false'. Refute it at one input. -/
def fnBlockWrong : ChangeSpec := { name := "fnBlock", fn := fun _ => fun
  | [d] => { results := [.lit (.bool false)], args := [d] }
  | _ => none }
def FnBlockWrongFalsely : Prop := fnBlockRow.holds Try.pinned (OpenSpec.ofChange fnBlockWrong)

/-- 'laws.FnBlockTime': WHATEVER THE INPUT: true; the input reads as it did. -/
def fnBlockTimeSpec : ChangeSpec := { name := "fnBlockTime", fn := fun _ => fun
  | [d1, d2] => { results := [.lit (.bool true)], args := [d1, d2] }
  | _ => none }
def fnBlockTimeRow : OpenClaim := { program := "ytgfoimleoekkiaa", sum := "ccf011ade30501a7b19a56db355a508d5c6ce9fe9334d6b1f115f90996874b4a", func := "loop.example/stopgate/laws.FnBlockTime", spec := "fnBlockTime", unfollowed := true, recurses := true, apart := false }
def FnBlockTimeSaid : Prop := fnBlockTimeRow.holds Try.pinned (OpenSpec.ofChange fnBlockTimeSpec)

/-- ITS FALSE NEIGHBOUR: 'it returns false'. Refute it at one input. -/
def fnBlockTimeWrong : ChangeSpec := { name := "fnBlockTime", fn := fun _ => fun
  | [d1, d2] => { results := [.lit (.bool false)], args := [d1, d2] }
  | _ => none }
def FnBlockTimeWrongFalsely : Prop := fnBlockTimeRow.holds Try.pinned (OpenSpec.ofChange fnBlockTimeWrong)

/-- 'laws.FnBlockCount': WHATEVER THE INPUT: true; the input reads as it did. -/
def fnBlockCountSpec : ChangeSpec := { name := "fnBlockCount", fn := fun _ => fun
  | [d1, d2] => { results := [.lit (.bool true)], args := [d1, d2] }
  | _ => none }
def fnBlockCountRow : OpenClaim := { program := "ytgfoimleoekkiaa", sum := "ccf011ade30501a7b19a56db355a508d5c6ce9fe9334d6b1f115f90996874b4a", func := "loop.example/stopgate/laws.FnBlockCount", spec := "fnBlockCount", unfollowed := true, recurses := true, apart := false }
def FnBlockCountSaid : Prop := fnBlockCountRow.holds Try.pinned (OpenSpec.ofChange fnBlockCountSpec)

/-- ITS FALSE NEIGHBOUR: 'it returns false'. Refute it at one input. -/
def fnBlockCountWrong : ChangeSpec := { name := "fnBlockCount", fn := fun _ => fun
  | [d1, d2] => { results := [.lit (.bool false)], args := [d1, d2] }
  | _ => none }
def FnBlockCountWrongFalsely : Prop := fnBlockCountRow.holds Try.pinned (OpenSpec.ofChange fnBlockCountWrong)

/-- 'laws.FnBlockLatch': WHATEVER THE INPUT: true; the input reads as it did. -/
def fnBlockLatchSpec : ChangeSpec := { name := "fnBlockLatch", fn := fun _ => fun
  | [d1, d2] => { results := [.lit (.bool true)], args := [d1, d2] }
  | _ => none }
def fnBlockLatchRow : OpenClaim := { program := "ytgfoimleoekkiaa", sum := "ccf011ade30501a7b19a56db355a508d5c6ce9fe9334d6b1f115f90996874b4a", func := "loop.example/stopgate/laws.FnBlockLatch", spec := "fnBlockLatch", unfollowed := true, recurses := true, apart := false }
def FnBlockLatchSaid : Prop := fnBlockLatchRow.holds Try.pinned (OpenSpec.ofChange fnBlockLatchSpec)

/-- ITS FALSE NEIGHBOUR: 'it returns false'. Refute it at one input. -/
def fnBlockLatchWrong : ChangeSpec := { name := "fnBlockLatch", fn := fun _ => fun
  | [d1, d2] => { results := [.lit (.bool false)], args := [d1, d2] }
  | _ => none }
def FnBlockLatchWrongFalsely : Prop := fnBlockLatchRow.holds Try.pinned (OpenSpec.ofChange fnBlockLatchWrong)

/-- 'laws.FnBlockBent': WHATEVER THE INPUT: true; the input reads as it did. -/
def fnBlockBentSpec : ChangeSpec := { name := "fnBlockBent", fn := fun _ => fun
  | [d] => { results := [.lit (.bool true)], args := [d] }
  | _ => none }
def fnBlockBentRow : OpenClaim := { program := "ytgfoimleoekkiaa", sum := "ccf011ade30501a7b19a56db355a508d5c6ce9fe9334d6b1f115f90996874b4a", func := "loop.example/stopgate/laws.FnBlockBent", spec := "fnBlockBent", unfollowed := true, recurses := true, apart := false }
def FnBlockBentSaid : Prop := fnBlockBentRow.holds Try.pinned (OpenSpec.ofChange fnBlockBentSpec)

/-- ITS FALSE NEIGHBOUR: 'it returns false'. Refute it at one input. -/
def fnBlockBentWrong : ChangeSpec := { name := "fnBlockBent", fn := fun _ => fun
  | [d] => { results := [.lit (.bool false)], args := [d] }
  | _ => none }
def FnBlockBentWrongFalsely : Prop := fnBlockBentRow.holds Try.pinned (OpenSpec.ofChange fnBlockBentWrong)

/-- 'laws.FnBlockSplit': WHATEVER THE INPUT: true; the input reads as it did. -/
def fnBlockSplitSpec : ChangeSpec := { name := "fnBlockSplit", fn := fun _ => fun
  | [d1, d2] => { results := [.lit (.bool true)], args := [d1, d2] }
  | _ => none }
def fnBlockSplitRow : OpenClaim := { program := "ytgfoimleoekkiaa", sum := "ccf011ade30501a7b19a56db355a508d5c6ce9fe9334d6b1f115f90996874b4a", func := "loop.example/stopgate/laws.FnBlockSplit", spec := "fnBlockSplit", unfollowed := true, recurses := true, apart := false }
def FnBlockSplitSaid : Prop := fnBlockSplitRow.holds Try.pinned (OpenSpec.ofChange fnBlockSplitSpec)

/-- ITS FALSE NEIGHBOUR: 'it returns false'. Refute it at one input. -/
def fnBlockSplitWrong : ChangeSpec := { name := "fnBlockSplit", fn := fun _ => fun
  | [d1, d2] => { results := [.lit (.bool false)], args := [d1, d2] }
  | _ => none }
def FnBlockSplitWrongFalsely : Prop := fnBlockSplitRow.holds Try.pinned (OpenSpec.ofChange fnBlockSplitWrong)

/-- 'laws.FnExactBlockNew': WHATEVER THE INPUT: true; the input reads as it did. -/
def fnExactBlockNewSpec : ChangeSpec := { name := "fnExactBlockNew", fn := fun _ => fun
  | [d1, d2] => { results := [.lit (.bool true)], args := [d1, d2] }
  | _ => none }
def fnExactBlockNewRow : OpenClaim := { program := "ytgfoimleoekkiaa", sum := "ccf011ade30501a7b19a56db355a508d5c6ce9fe9334d6b1f115f90996874b4a", func := "loop.example/stopgate/laws.FnExactBlockNew", spec := "fnExactBlockNew", unfollowed := true, recurses := true, apart := false }
def FnExactBlockNewSaid : Prop := fnExactBlockNewRow.holds Try.pinned (OpenSpec.ofChange fnExactBlockNewSpec)

/-- ITS FALSE NEIGHBOUR: 'it returns false'. Refute it at one input. -/
def fnExactBlockNewWrong : ChangeSpec := { name := "fnExactBlockNew", fn := fun _ => fun
  | [d1, d2] => { results := [.lit (.bool false)], args := [d1, d2] }
  | _ => none }
def FnExactBlockNewWrongFalsely : Prop := fnExactBlockNewRow.holds Try.pinned (OpenSpec.ofChange fnExactBlockNewWrong)

/-- 'laws.FnExactBlockOk': WHATEVER THE INPUT: true; the input reads as it did. -/
def fnExactBlockOkSpec : ChangeSpec := { name := "fnExactBlockOk", fn := fun _ => fun
  | [d] => { results := [.lit (.bool true)], args := [d] }
  | _ => none }
def fnExactBlockOkRow : OpenClaim := { program := "ytgfoimleoekkiaa", sum := "ccf011ade30501a7b19a56db355a508d5c6ce9fe9334d6b1f115f90996874b4a", func := "loop.example/stopgate/laws.FnExactBlockOk", spec := "fnExactBlockOk", unfollowed := true, recurses := true, apart := false }
def FnExactBlockOkSaid : Prop := fnExactBlockOkRow.holds Try.pinned (OpenSpec.ofChange fnExactBlockOkSpec)

/-- ITS FALSE NEIGHBOUR: 'it returns false'. Refute it at one input. -/
def fnExactBlockOkWrong : ChangeSpec := { name := "fnExactBlockOk", fn := fun _ => fun
  | [d] => { results := [.lit (.bool false)], args := [d] }
  | _ => none }
def FnExactBlockOkWrongFalsely : Prop := fnExactBlockOkRow.holds Try.pinned (OpenSpec.ofChange fnExactBlockOkWrong)

/-- 'laws.FnExactBlockStep': WHATEVER THE INPUT: true; the input reads as it did. -/
def fnExactBlockStepSpec : ChangeSpec := { name := "fnExactBlockStep", fn := fun _ => fun
  | [d1, d2, d3, d4] => { results := [.lit (.bool true)], args := [d1, d2, d3, d4] }
  | _ => none }
def fnExactBlockStepRow : OpenClaim := { program := "ytgfoimleoekkiaa", sum := "ccf011ade30501a7b19a56db355a508d5c6ce9fe9334d6b1f115f90996874b4a", func := "loop.example/stopgate/laws.FnExactBlockStep", spec := "fnExactBlockStep", unfollowed := true, recurses := true, apart := false }
def FnExactBlockStepSaid : Prop := fnExactBlockStepRow.holds Try.pinned (OpenSpec.ofChange fnExactBlockStepSpec)

/-- ITS FALSE NEIGHBOUR: 'it returns false'. Refute it at one input. -/
def fnExactBlockStepWrong : ChangeSpec := { name := "fnExactBlockStep", fn := fun _ => fun
  | [d1, d2, d3, d4] => { results := [.lit (.bool false)], args := [d1, d2, d3, d4] }
  | _ => none }
def FnExactBlockStepWrongFalsely : Prop := fnExactBlockStepRow.holds Try.pinned (OpenSpec.ofChange fnExactBlockStepWrong)

/- THE SECOND FORM. 'bulk': how many values and letters a reading holds, each counted each time it is reached (what is shared counts as often as it is met; a slice's spare places count too). A statement '..UptoSaid' is the law's where the arguments, and the package variables that the reading takes, are together of bulk at most 1048576: NARROWER than '..Said'. Prove '..Said' where nothing that the law and all that it calls make is longer than what came in: it says more and counts as full. Else prove '..UptoSaid'. A law counts once. -/
mutual
def uptoBulk {H : Type} : DataW H → Nat
  | .lit (.string bytes) => bytes.length + 1
  | .lit _ => 1
  | .nil => 1
  | .ptr d => uptoBulk d + 1
  | .slice elems spare => uptoBulkAll elems + uptoBulkAll spare + 1
  | .agg parts => uptoBulkAll parts + 1
  | .iface _ d => uptoBulk d + 1
  | .map entries => uptoBulkEntries entries + 1
  | .held _ => 1
def uptoBulkAll {H : Type} : List (DataW H) → Nat
  | [] => 0
  | d :: r => uptoBulk d + uptoBulkAll r
def uptoBulkEntries {H : Type} : List (Lit × DataW H) → Nat
  | [] => 0
  | x :: r => uptoBulkEntry x + uptoBulkEntries r
def uptoBulkEntry {H : Type} : Lit × DataW H → Nat
  | (.string bytes, d) => bytes.length + uptoBulk d + 1
  | (_, d) => uptoBulk d + 1
 end
def uptoSmall : (H : Type) → List (DataW H) → Bool := fun _ ds => decide (uptoBulkAll ds ≤ 1048576)
def OpenSpec.upto (s : _root_.Go.ChangeSpec) : _root_.Go.OpenSpec := { _root_.Go.OpenSpec.ofChange s with cond := some uptoSmall }

/-- 'laws.FnBlock', WHERE WHAT IT READS IS OF BULK AT MOST 1048576: true; the input reads as it did. -/
def fnBlockUptoRow : OpenClaim := { program := "ytgfoimleoekkiaa", sum := "ccf011ade30501a7b19a56db355a508d5c6ce9fe9334d6b1f115f90996874b4a", func := "loop.example/stopgate/laws.FnBlock", spec := "fnBlock", unfollowed := true, recurses := true, apart := false, narrowed := true }
def FnBlockUptoSaid : Prop := fnBlockUptoRow.holds Try.pinned (OpenSpec.upto fnBlockSpec)

/-- 'laws.FnBlockTime', WHERE WHAT IT READS IS OF BULK AT MOST 1048576: true; the input reads as it did. -/
def fnBlockTimeUptoRow : OpenClaim := { program := "ytgfoimleoekkiaa", sum := "ccf011ade30501a7b19a56db355a508d5c6ce9fe9334d6b1f115f90996874b4a", func := "loop.example/stopgate/laws.FnBlockTime", spec := "fnBlockTime", unfollowed := true, recurses := true, apart := false, narrowed := true }
def FnBlockTimeUptoSaid : Prop := fnBlockTimeUptoRow.holds Try.pinned (OpenSpec.upto fnBlockTimeSpec)

/-- 'laws.FnBlockCount', WHERE WHAT IT READS IS OF BULK AT MOST 1048576: true; the input reads as it did. -/
def fnBlockCountUptoRow : OpenClaim := { program := "ytgfoimleoekkiaa", sum := "ccf011ade30501a7b19a56db355a508d5c6ce9fe9334d6b1f115f90996874b4a", func := "loop.example/stopgate/laws.FnBlockCount", spec := "fnBlockCount", unfollowed := true, recurses := true, apart := false, narrowed := true }
def FnBlockCountUptoSaid : Prop := fnBlockCountUptoRow.holds Try.pinned (OpenSpec.upto fnBlockCountSpec)

/-- 'laws.FnBlockLatch', WHERE WHAT IT READS IS OF BULK AT MOST 1048576: true; the input reads as it did. -/
def fnBlockLatchUptoRow : OpenClaim := { program := "ytgfoimleoekkiaa", sum := "ccf011ade30501a7b19a56db355a508d5c6ce9fe9334d6b1f115f90996874b4a", func := "loop.example/stopgate/laws.FnBlockLatch", spec := "fnBlockLatch", unfollowed := true, recurses := true, apart := false, narrowed := true }
def FnBlockLatchUptoSaid : Prop := fnBlockLatchUptoRow.holds Try.pinned (OpenSpec.upto fnBlockLatchSpec)

/-- 'laws.FnBlockBent', WHERE WHAT IT READS IS OF BULK AT MOST 1048576: true; the input reads as it did. -/
def fnBlockBentUptoRow : OpenClaim := { program := "ytgfoimleoekkiaa", sum := "ccf011ade30501a7b19a56db355a508d5c6ce9fe9334d6b1f115f90996874b4a", func := "loop.example/stopgate/laws.FnBlockBent", spec := "fnBlockBent", unfollowed := true, recurses := true, apart := false, narrowed := true }
def FnBlockBentUptoSaid : Prop := fnBlockBentUptoRow.holds Try.pinned (OpenSpec.upto fnBlockBentSpec)

/-- 'laws.FnBlockSplit', WHERE WHAT IT READS IS OF BULK AT MOST 1048576: true; the input reads as it did. -/
def fnBlockSplitUptoRow : OpenClaim := { program := "ytgfoimleoekkiaa", sum := "ccf011ade30501a7b19a56db355a508d5c6ce9fe9334d6b1f115f90996874b4a", func := "loop.example/stopgate/laws.FnBlockSplit", spec := "fnBlockSplit", unfollowed := true, recurses := true, apart := false, narrowed := true }
def FnBlockSplitUptoSaid : Prop := fnBlockSplitUptoRow.holds Try.pinned (OpenSpec.upto fnBlockSplitSpec)

/-- 'laws.FnExactBlockNew', WHERE WHAT IT READS IS OF BULK AT MOST 1048576: true; the input reads as it did. -/
def fnExactBlockNewUptoRow : OpenClaim := { program := "ytgfoimleoekkiaa", sum := "ccf011ade30501a7b19a56db355a508d5c6ce9fe9334d6b1f115f90996874b4a", func := "loop.example/stopgate/laws.FnExactBlockNew", spec := "fnExactBlockNew", unfollowed := true, recurses := true, apart := false, narrowed := true }
def FnExactBlockNewUptoSaid : Prop := fnExactBlockNewUptoRow.holds Try.pinned (OpenSpec.upto fnExactBlockNewSpec)

/-- 'laws.FnExactBlockOk', WHERE WHAT IT READS IS OF BULK AT MOST 1048576: true; the input reads as it did. -/
def fnExactBlockOkUptoRow : OpenClaim := { program := "ytgfoimleoekkiaa", sum := "ccf011ade30501a7b19a56db355a508d5c6ce9fe9334d6b1f115f90996874b4a", func := "loop.example/stopgate/laws.FnExactBlockOk", spec := "fnExactBlockOk", unfollowed := true, recurses := true, apart := false, narrowed := true }
def FnExactBlockOkUptoSaid : Prop := fnExactBlockOkUptoRow.holds Try.pinned (OpenSpec.upto fnExactBlockOkSpec)

/-- 'laws.FnExactBlockStep', WHERE WHAT IT READS IS OF BULK AT MOST 1048576: true; the input reads as it did. -/
def fnExactBlockStepUptoRow : OpenClaim := { program := "ytgfoimleoekkiaa", sum := "ccf011ade30501a7b19a56db355a508d5c6ce9fe9334d6b1f115f90996874b4a", func := "loop.example/stopgate/laws.FnExactBlockStep", spec := "fnExactBlockStep", unfollowed := true, recurses := true, apart := false, narrowed := true }
def FnExactBlockStepUptoSaid : Prop := fnExactBlockStepUptoRow.holds Try.pinned (OpenSpec.upto fnExactBlockStepSpec)

end Rows
end Go.Proofs.Ytgfoimleoekkiaa
