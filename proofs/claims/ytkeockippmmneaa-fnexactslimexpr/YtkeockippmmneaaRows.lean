/-
  NARROWER THAN 'FOR EVERY INPUT', by the rows' own cells (each row's printed sentence says how): FnExactSlimExpr: loops · FnExactSlimReads: loops · FnExactSlimWrites: loops.
  DERIVED. THE GIVEN ROWS OF THIS SEAT. 3 by the template 'for every input the law returns true; each argument reads behind the call as it read before'; 0 by the template 'total and deterministic' (their statements: YtkeockippmmneaaTotals.lean).
  GIVEN WITH THE SEED: the statements are not yours to turn. If you find one false, say at which input.
  Laid BY PROGRAM, IN A SANDBOX (cutbox-rows.mjs): the forced cells as the released guide's own fill.sh prints them over the translation a6865e10ec47cf72… (all of the seat's roots in one cut). By AI agents, Wed Nov 11 2026. No macro, syntax, notation, axiom, sorry.
-/
import Derived.Test.YtkeockippmmneaaChecked
import GoSem.Claim
import GoSem.ClaimJoined
import GoSem.ClaimMapViews
import Derived.JoinedTies
import Derived.KernelRfl
namespace Go.Proofs.Ytkeockippmmneaa
/- THE CELL 'sum', in the pinned program and in every row, IS THE sha256 OF THE DUMP (.gsa) THAT YtkeockippmmneaaProg.lean LOADS. Nothing in Lean hashes anything: it is a label: what it is worth is what the hold of that sum in a sandbox is worth. -/
noncomputable def Try.pinned : Pinned := { name := "ytkeockippmmneaa", sum := "a6865e10ec47cf72a9ece1fc52a83706e441c808e35704e266c2c237a6176d10", checked := Try.checked }
namespace Rows
def none {H : Type} : Left H := { results := [], args := [] }

/-- 'laws.FnExactSlimExpr': WHATEVER THE INPUT: true; the input reads as it did. -/
def fnExactSlimExprSpec : ChangeSpec := { name := "fnExactSlimExpr", fn := fun _ => fun
  | [d] => { results := [.lit (.bool true)], args := [d] }
  | _ => none }
def fnExactSlimExprRow : OpenClaim := { program := "ytkeockippmmneaa", sum := "a6865e10ec47cf72a9ece1fc52a83706e441c808e35704e266c2c237a6176d10", func := "loop.example/stopgate/laws.FnExactSlimExpr", spec := "fnExactSlimExpr", unfollowed := true, recurses := true, loops := true, plainKeys := false, apart := false }
def FnExactSlimExprSaid : Prop := fnExactSlimExprRow.holds Try.pinned (OpenSpec.ofChange fnExactSlimExprSpec)

/-- ITS FALSE NEIGHBOUR: 'it returns false'. Refute it at one input. -/
def fnExactSlimExprWrong : ChangeSpec := { name := "fnExactSlimExpr", fn := fun _ => fun
  | [d] => { results := [.lit (.bool false)], args := [d] }
  | _ => none }
def FnExactSlimExprWrongFalsely : Prop := fnExactSlimExprRow.holds Try.pinned (OpenSpec.ofChange fnExactSlimExprWrong)

/-- 'laws.FnExactSlimReads': WHATEVER THE INPUT: true; the input reads as it did. -/
def fnExactSlimReadsSpec : ChangeSpec := { name := "fnExactSlimReads", fn := fun _ => fun
  | [d1, d2] => { results := [.lit (.bool true)], args := [d1, d2] }
  | _ => none }
def fnExactSlimReadsRow : OpenClaim := { program := "ytkeockippmmneaa", sum := "a6865e10ec47cf72a9ece1fc52a83706e441c808e35704e266c2c237a6176d10", func := "loop.example/stopgate/laws.FnExactSlimReads", spec := "fnExactSlimReads", unfollowed := true, recurses := true, loops := true, plainKeys := false, apart := false }
def FnExactSlimReadsSaid : Prop := fnExactSlimReadsRow.holds Try.pinned (OpenSpec.ofChange fnExactSlimReadsSpec)

/-- ITS FALSE NEIGHBOUR: 'it returns false'. Refute it at one input. -/
def fnExactSlimReadsWrong : ChangeSpec := { name := "fnExactSlimReads", fn := fun _ => fun
  | [d1, d2] => { results := [.lit (.bool false)], args := [d1, d2] }
  | _ => none }
def FnExactSlimReadsWrongFalsely : Prop := fnExactSlimReadsRow.holds Try.pinned (OpenSpec.ofChange fnExactSlimReadsWrong)

/-- 'laws.FnExactSlimWrites': WHATEVER THE INPUT: true; the input reads as it did. -/
def fnExactSlimWritesSpec : ChangeSpec := { name := "fnExactSlimWrites", fn := fun _ => fun
  | [d1, d2] => { results := [.lit (.bool true)], args := [d1, d2] }
  | _ => none }
def fnExactSlimWritesRow : OpenClaim := { program := "ytkeockippmmneaa", sum := "a6865e10ec47cf72a9ece1fc52a83706e441c808e35704e266c2c237a6176d10", func := "loop.example/stopgate/laws.FnExactSlimWrites", spec := "fnExactSlimWrites", unfollowed := true, recurses := true, loops := true, plainKeys := false, apart := false }
def FnExactSlimWritesSaid : Prop := fnExactSlimWritesRow.holds Try.pinned (OpenSpec.ofChange fnExactSlimWritesSpec)

/-- ITS FALSE NEIGHBOUR: 'it returns false'. Refute it at one input. -/
def fnExactSlimWritesWrong : ChangeSpec := { name := "fnExactSlimWrites", fn := fun _ => fun
  | [d1, d2] => { results := [.lit (.bool false)], args := [d1, d2] }
  | _ => none }
def FnExactSlimWritesWrongFalsely : Prop := fnExactSlimWritesRow.holds Try.pinned (OpenSpec.ofChange fnExactSlimWritesWrong)

/- THE SECOND FORM. 'bulk': how many values and letters a reading holds, each counted each time it is reached (what is shared counts as often as it is met; a slice's spare places count too). A statement '..UptoSaid' is the law's where the arguments, and the package variables that the reading takes, are together of bulk at most 1048576: NARROWER than '..Said'. Prove '..Said' where nothing that the law and all that it calls make is longer than what came in: it says more and counts as full. Else prove '..UptoSaid'. A law counts once. -/
mutual
def uptoBulk {H : Type} : DataW H → Nat
  | .lit (.string bytes) => bytes.length + 1
  | .lit _ => 1
  | .nil => 1
  | .ptr d => uptoBulk d + 1
  | .slice elems spare => uptoBulkAll elems + uptoBulkAll spare + 1
  | .agg parts => uptoBulkAll parts + 1
  | .iface _ d => uptoBulk d + 1
  | .map entries => uptoBulkEntries entries + 1
  | .held _ => 1
def uptoBulkAll {H : Type} : List (DataW H) → Nat
  | [] => 0
  | d :: r => uptoBulk d + uptoBulkAll r
def uptoBulkEntries {H : Type} : List (Lit × DataW H) → Nat
  | [] => 0
  | x :: r => uptoBulkEntry x + uptoBulkEntries r
def uptoBulkEntry {H : Type} : Lit × DataW H → Nat
  | (.string bytes, d) => bytes.length + uptoBulk d + 1
  | (_, d) => uptoBulk d + 1
 end
def uptoSmall : (H : Type) → List (DataW H) → Bool := fun _ ds => decide (uptoBulkAll ds ≤ 1048576)
def OpenSpec.upto (s : _root_.Go.ChangeSpec) : _root_.Go.OpenSpec := { _root_.Go.OpenSpec.ofChange s with cond := some uptoSmall }

/-- 'laws.FnExactSlimExpr', WHERE WHAT IT READS IS OF BULK AT MOST 1048576: true; the input reads as it did. -/
def fnExactSlimExprUptoRow : OpenClaim := { program := "ytkeockippmmneaa", sum := "a6865e10ec47cf72a9ece1fc52a83706e441c808e35704e266c2c237a6176d10", func := "loop.example/stopgate/laws.FnExactSlimExpr", spec := "fnExactSlimExpr", unfollowed := true, recurses := true, loops := true, plainKeys := false, apart := false, narrowed := true }
def FnExactSlimExprUptoSaid : Prop := fnExactSlimExprUptoRow.holds Try.pinned (OpenSpec.upto fnExactSlimExprSpec)

/-- 'laws.FnExactSlimReads', WHERE WHAT IT READS IS OF BULK AT MOST 1048576: true; the input reads as it did. -/
def fnExactSlimReadsUptoRow : OpenClaim := { program := "ytkeockippmmneaa", sum := "a6865e10ec47cf72a9ece1fc52a83706e441c808e35704e266c2c237a6176d10", func := "loop.example/stopgate/laws.FnExactSlimReads", spec := "fnExactSlimReads", unfollowed := true, recurses := true, loops := true, plainKeys := false, apart := false, narrowed := true }
def FnExactSlimReadsUptoSaid : Prop := fnExactSlimReadsUptoRow.holds Try.pinned (OpenSpec.upto fnExactSlimReadsSpec)

/-- 'laws.FnExactSlimWrites', WHERE WHAT IT READS IS OF BULK AT MOST 1048576: true; the input reads as it did. -/
def fnExactSlimWritesUptoRow : OpenClaim := { program := "ytkeockippmmneaa", sum := "a6865e10ec47cf72a9ece1fc52a83706e441c808e35704e266c2c237a6176d10", func := "loop.example/stopgate/laws.FnExactSlimWrites", spec := "fnExactSlimWrites", unfollowed := true, recurses := true, loops := true, plainKeys := false, apart := false, narrowed := true }
def FnExactSlimWritesUptoSaid : Prop := fnExactSlimWritesUptoRow.holds Try.pinned (OpenSpec.upto fnExactSlimWritesSpec)

end Rows
end Go.Proofs.Ytkeockippmmneaa
