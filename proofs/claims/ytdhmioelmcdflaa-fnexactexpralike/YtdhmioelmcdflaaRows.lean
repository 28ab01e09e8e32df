/-
  NARROWER THAN 'FOR EVERY INPUT', by the rows' own cells (each row's printed sentence says how): FnExactExprOk: loops · FnExactExprAlike: loops · FnExactExprMany: loops · FnExactExprOf: loops · FnExactExprText: loops.
  DERIVED. THE GIVEN ROWS OF THIS SEAT. 7 by the template 'for every input the law returns true; each argument reads behind the call as it read before'; 0 by the template 'total and deterministic' (their statements: YtdhmioelmcdflaaTotals.lean).
  GIVEN WITH THE SEED: the statements are not yours to turn. If you find one false, say at which input.
  Laid BY PROGRAM, IN A SANDBOX (cutbox-rows.mjs): the forced cells as the released guide's own fill.sh prints them over the translation 2832eb56f89e1191… (all of the seat's roots in one cut). By AI agents, Wed Nov 11 2026. No macro, syntax, notation, axiom, sorry.
-/
import Derived.Test.YtdhmioelmcdflaaChecked
import GoSem.Claim
import GoSem.ClaimJoined
import GoSem.ClaimMapViews
import Derived.JoinedTies
import Derived.KernelRfl
namespace Go.Proofs.Ytdhmioelmcdflaa
/- THE CELL 'sum', in the pinned program and in every row, IS THE sha256 OF THE DUMP (.gsa) THAT YtdhmioelmcdflaaProg.lean LOADS. Nothing in Lean hashes anything: it is a label: what it is worth is what the hold of that sum in a sandbox is worth. -/
noncomputable def Try.pinned : Pinned := { name := "ytdhmioelmcdflaa", sum := "2832eb56f89e1191c2933531acb899e82642bdbadfd8940aa5d5eee8dfdfd1ea", checked := Try.checked }
namespace Rows
def none {H : Type} : Left H := { results := [], args := [] }

/-- 'laws.FnExprOf': WHATEVER THE INPUT: true; the input reads as it did. -/
def fnExprOfSpec : ChangeSpec := { name := "fnExprOf", fn := fun _ => fun
  | [d] => { results := [.lit (.bool true)], args := [d] }
  | _ => none }
def fnExprOfRow : OpenClaim := { program := "ytdhmioelmcdflaa", sum := "2832eb56f89e1191c2933531acb899e82642bdbadfd8940aa5d5eee8dfdfd1ea", func := "loop.example/stopgate/laws.FnExprOf", spec := "fnExprOf", unfollowed := true, recurses := true, plainKeys := false, apart := false }
def FnExprOfSaid : Prop := fnExprOfRow.holds Try.pinned (OpenSpec.ofChange fnExprOfSpec)

/-- ITS FALSE NEIGHBOUR: 'it returns false'. Refute it at one input. -/
def fnExprOfWrong : ChangeSpec := { name := "fnExprOf", fn := fun _ => fun
  | [d] => { results := [.lit (.bool false)], args := [d] }
  | _ => none }
def FnExprOfWrongFalsely : Prop := fnExprOfRow.holds Try.pinned (OpenSpec.ofChange fnExprOfWrong)

/-- 'laws.FnExprSwap': WHATEVER THE INPUT: true; the input reads as it did. -/
def fnExprSwapSpec : ChangeSpec := { name := "fnExprSwap", fn := fun _ => fun
  | [d1, d2] => { results := [.lit (.bool true)], args := [d1, d2] }
  | _ => none }
def fnExprSwapRow : OpenClaim := { program := "ytdhmioelmcdflaa", sum := "2832eb56f89e1191c2933531acb899e82642bdbadfd8940aa5d5eee8dfdfd1ea", func := "loop.example/stopgate/laws.FnExprSwap", spec := "fnExprSwap", unfollowed := true, recurses := true, plainKeys := false, apart := false }
def FnExprSwapSaid : Prop := fnExprSwapRow.holds Try.pinned (OpenSpec.ofChange fnExprSwapSpec)

/-- ITS FALSE NEIGHBOUR: 'it returns false'. Refute it at one input. -/
def fnExprSwapWrong : ChangeSpec := { name := "fnExprSwap", fn := fun _ => fun
  | [d1, d2] => { results := [.lit (.bool false)], args := [d1, d2] }
  | _ => none }
def FnExprSwapWrongFalsely : Prop := fnExprSwapRow.holds Try.pinned (OpenSpec.ofChange fnExprSwapWrong)

/-- 'laws.FnExactExprOk': WHATEVER THE INPUT: true; the input reads as it did. -/
def fnExactExprOkSpec : ChangeSpec := { name := "fnExactExprOk", fn := fun _ => fun
  | [d] => { results := [.lit (.bool true)], args := [d] }
  | _ => none }
def fnExactExprOkRow : OpenClaim := { program := "ytdhmioelmcdflaa", sum := "2832eb56f89e1191c2933531acb899e82642bdbadfd8940aa5d5eee8dfdfd1ea", func := "loop.example/stopgate/laws.FnExactExprOk", spec := "fnExactExprOk", unfollowed := true, recurses := true, loops := true, plainKeys := false, apart := false }
def FnExactExprOkSaid : Prop := fnExactExprOkRow.holds Try.pinned (OpenSpec.ofChange fnExactExprOkSpec)

/-- ITS FALSE NEIGHBOUR: 'it returns false'. Refute it at one input. -/
def fnExactExprOkWrong : ChangeSpec := { name := "fnExactExprOk", fn := fun _ => fun
  | [d] => { results := [.lit (.bool false)], args := [d] }
  | _ => none }
def FnExactExprOkWrongFalsely : Prop := fnExactExprOkRow.holds Try.pinned (OpenSpec.ofChange fnExactExprOkWrong)

/-- 'laws.FnExactExprAlike': WHATEVER THE INPUT: true; the input reads as it did. -/
def fnExactExprAlikeSpec : ChangeSpec := { name := "fnExactExprAlike", fn := fun _ => fun
  | [d1, d2] => { results := [.lit (.bool true)], args := [d1, d2] }
  | _ => none }
def fnExactExprAlikeRow : OpenClaim := { program := "ytdhmioelmcdflaa", sum := "2832eb56f89e1191c2933531acb899e82642bdbadfd8940aa5d5eee8dfdfd1ea", func := "loop.example/stopgate/laws.FnExactExprAlike", spec := "fnExactExprAlike", recurses := true, loops := true, plainKeys := false, apart := false }
def FnExactExprAlikeSaid : Prop := fnExactExprAlikeRow.holds Try.pinned (OpenSpec.ofChange fnExactExprAlikeSpec)

/-- ITS FALSE NEIGHBOUR: 'it returns false'. Refute it at one input. -/
def fnExactExprAlikeWrong : ChangeSpec := { name := "fnExactExprAlike", fn := fun _ => fun
  | [d1, d2] => { results := [.lit (.bool false)], args := [d1, d2] }
  | _ => none }
def FnExactExprAlikeWrongFalsely : Prop := fnExactExprAlikeRow.holds Try.pinned (OpenSpec.ofChange fnExactExprAlikeWrong)

/-- 'laws.FnExactExprMany': WHATEVER THE INPUT: true; the input reads as it did. -/
def fnExactExprManySpec : ChangeSpec := { name := "fnExactExprMany", fn := fun _ => fun
  | [d] => { results := [.lit (.bool true)], args := [d] }
  | _ => none }
def fnExactExprManyRow : OpenClaim := { program := "ytdhmioelmcdflaa", sum := "2832eb56f89e1191c2933531acb899e82642bdbadfd8940aa5d5eee8dfdfd1ea", func := "loop.example/stopgate/laws.FnExactExprMany", spec := "fnExactExprMany", unfollowed := true, recurses := true, loops := true, plainKeys := false, apart := false }
def FnExactExprManySaid : Prop := fnExactExprManyRow.holds Try.pinned (OpenSpec.ofChange fnExactExprManySpec)

/-- ITS FALSE NEIGHBOUR: 'it returns false'. Refute it at one input. -/
def fnExactExprManyWrong : ChangeSpec := { name := "fnExactExprMany", fn := fun _ => fun
  | [d] => { results := [.lit (.bool false)], args := [d] }
  | _ => none }
def FnExactExprManyWrongFalsely : Prop := fnExactExprManyRow.holds Try.pinned (OpenSpec.ofChange fnExactExprManyWrong)

/-- 'laws.FnExactExprOf': WHATEVER THE INPUT: true; the input reads as it did. -/
def fnExactExprOfSpec : ChangeSpec := { name := "fnExactExprOf", fn := fun _ => fun
  | [d1, d2] => { results := [.lit (.bool true)], args := [d1, d2] }
  | _ => none }
def fnExactExprOfRow : OpenClaim := { program := "ytdhmioelmcdflaa", sum := "2832eb56f89e1191c2933531acb899e82642bdbadfd8940aa5d5eee8dfdfd1ea", func := "loop.example/stopgate/laws.FnExactExprOf", spec := "fnExactExprOf", unfollowed := true, recurses := true, loops := true, plainKeys := false, apart := false }
def FnExactExprOfSaid : Prop := fnExactExprOfRow.holds Try.pinned (OpenSpec.ofChange fnExactExprOfSpec)

/-- ITS FALSE NEIGHBOUR: 'it returns false'. Refute it at one input. -/
def fnExactExprOfWrong : ChangeSpec := { name := "fnExactExprOf", fn := fun _ => fun
  | [d1, d2] => { results := [.lit (.bool false)], args := [d1, d2] }
  | _ => none }
def FnExactExprOfWrongFalsely : Prop := fnExactExprOfRow.holds Try.pinned (OpenSpec.ofChange fnExactExprOfWrong)

/-- 'laws.FnExactExprText': WHATEVER THE INPUT: true; the input reads as it did. -/
def fnExactExprTextSpec : ChangeSpec := { name := "fnExactExprText", fn := fun _ => fun
  | [d] => { results := [.lit (.bool true)], args := [d] }
  | _ => none }
def fnExactExprTextRow : OpenClaim := { program := "ytdhmioelmcdflaa", sum := "2832eb56f89e1191c2933531acb899e82642bdbadfd8940aa5d5eee8dfdfd1ea", func := "loop.example/stopgate/laws.FnExactExprText", spec := "fnExactExprText", inPlace := ["internal/abi.NoEscape", "internal/bytealg.MakeNoZero"], unfollowed := true, recurses := true, loops := true, plainKeys := false, apart := false }
def FnExactExprTextSaid : Prop := fnExactExprTextRow.holds Try.pinned (OpenSpec.ofChange fnExactExprTextSpec)

/-- ITS FALSE NEIGHBOUR: 'it returns false'. Refute it at one input. -/
def fnExactExprTextWrong : ChangeSpec := { name := "fnExactExprText", fn := fun _ => fun
  | [d] => { results := [.lit (.bool false)], args := [d] }
  | _ => none }
def FnExactExprTextWrongFalsely : Prop := fnExactExprTextRow.holds Try.pinned (OpenSpec.ofChange fnExactExprTextWrong)

/- THE SECOND FORM. 'bulk': how many values and letters a reading holds, each counted each time it is reached (what is shared counts as often as it is met; a slice's spare places count too). A statement '..UptoSaid' is the law's where the arguments, and the package variables that the reading takes, are together of bulk at most 1048576: NARROWER than '..Said'. Prove '..Said' where nothing that the law and all that it calls make is longer than what came in: it says more and counts as full. Else prove '..UptoSaid'. A law counts once. -/
mutual
def uptoBulk {H : Type} : DataW H → Nat
  | .lit (.string bytes) => bytes.length + 1
  | .lit _ => 1
  | .nil => 1
  | .ptr d => uptoBulk d + 1
  | .slice elems spare => uptoBulkAll elems + uptoBulkAll spare + 1
  | .agg parts => uptoBulkAll parts + 1
  | .iface _ d => uptoBulk d + 1
  | .map entries => uptoBulkEntries entries + 1
  | .held _ => 1
def uptoBulkAll {H : Type} : List (DataW H) → Nat
  | [] => 0
  | d :: r => uptoBulk d + uptoBulkAll r
def uptoBulkEntries {H : Type} : List (Lit × DataW H) → Nat
  | [] => 0
  | x :: r => uptoBulkEntry x + uptoBulkEntries r
def uptoBulkEntry {H : Type} : Lit × DataW H → Nat
  | (.string bytes, d) => bytes.length + uptoBulk d + 1
  | (_, d) => uptoBulk d + 1
 end
def uptoSmall : (H : Type) → List (DataW H) → Bool := fun _ ds => decide (uptoBulkAll ds ≤ 1048576)
def OpenSpec.upto (s : _root_.Go.ChangeSpec) : _root_.Go.OpenSpec := { _root_.Go.OpenSpec.ofChange s with cond := some uptoSmall }

/-- 'laws.FnExprOf', WHERE WHAT IT READS IS OF BULK AT MOST 1048576: true; the input reads as it did. -/
def fnExprOfUptoRow : OpenClaim := { program := "ytdhmioelmcdflaa", sum := "2832eb56f89e1191c2933531acb899e82642bdbadfd8940aa5d5eee8dfdfd1ea", func := "loop.example/stopgate/laws.FnExprOf", spec := "fnExprOf", unfollowed := true, recurses := true, plainKeys := false, apart := false, narrowed := true }
def FnExprOfUptoSaid : Prop := fnExprOfUptoRow.holds Try.pinned (OpenSpec.upto fnExprOfSpec)

/-- 'laws.FnExprSwap', WHERE WHAT IT READS IS OF BULK AT MOST 1048576: true; the input reads as it did. -/
def fnExprSwapUptoRow : OpenClaim := { program := "ytdhmioelmcdflaa", sum := "2832eb56f89e1191c2933531acb899e82642bdbadfd8940aa5d5eee8dfdfd1ea", func := "loop.example/stopgate/laws.FnExprSwap", spec := "fnExprSwap", unfollowed := true, recurses := true, plainKeys := false, apart := false, narrowed := true }
def FnExprSwapUptoSaid : Prop := fnExprSwapUptoRow.holds Try.pinned (OpenSpec.upto fnExprSwapSpec)

/-- 'laws.FnExactExprOk', WHERE WHAT IT READS IS OF BULK AT MOST 1048576: true; the input reads as it did. -/
def fnExactExprOkUptoRow : OpenClaim := { program := "ytdhmioelmcdflaa", sum := "2832eb56f89e1191c2933531acb899e82642bdbadfd8940aa5d5eee8dfdfd1ea", func := "loop.example/stopgate/laws.FnExactExprOk", spec := "fnExactExprOk", unfollowed := true, recurses := true, loops := true, plainKeys := false, apart := false, narrowed := true }
def FnExactExprOkUptoSaid : Prop := fnExactExprOkUptoRow.holds Try.pinned (OpenSpec.upto fnExactExprOkSpec)

/-- 'laws.FnExactExprAlike', WHERE WHAT IT READS IS OF BULK AT MOST 1048576: true; the input reads as it did. -/
def fnExactExprAlikeUptoRow : OpenClaim := { program := "ytdhmioelmcdflaa", sum := "2832eb56f89e1191c2933531acb899e82642bdbadfd8940aa5d5eee8dfdfd1ea", func := "loop.example/stopgate/laws.FnExactExprAlike", spec := "fnExactExprAlike", recurses := true, loops := true, plainKeys := false, apart := false, narrowed := true }
def FnExactExprAlikeUptoSaid : Prop := fnExactExprAlikeUptoRow.holds Try.pinned (OpenSpec.upto fnExactExprAlikeSpec)

/-- 'laws.FnExactExprMany', WHERE WHAT IT READS IS OF BULK AT MOST 1048576: true; the input reads as it did. -/
def fnExactExprManyUptoRow : OpenClaim := { program := "ytdhmioelmcdflaa", sum := "2832eb56f89e1191c2933531acb899e82642bdbadfd8940aa5d5eee8dfdfd1ea", func := "loop.example/stopgate/laws.FnExactExprMany", spec := "fnExactExprMany", unfollowed := true, recurses := true, loops := true, plainKeys := false, apart := false, narrowed := true }
def FnExactExprManyUptoSaid : Prop := fnExactExprManyUptoRow.holds Try.pinned (OpenSpec.upto fnExactExprManySpec)

/-- 'laws.FnExactExprOf', WHERE WHAT IT READS IS OF BULK AT MOST 1048576: true; the input reads as it did. -/
def fnExactExprOfUptoRow : OpenClaim := { program := "ytdhmioelmcdflaa", sum := "2832eb56f89e1191c2933531acb899e82642bdbadfd8940aa5d5eee8dfdfd1ea", func := "loop.example/stopgate/laws.FnExactExprOf", spec := "fnExactExprOf", unfollowed := true, recurses := true, loops := true, plainKeys := false, apart := false, narrowed := true }
def FnExactExprOfUptoSaid : Prop := fnExactExprOfUptoRow.holds Try.pinned (OpenSpec.upto fnExactExprOfSpec)

/-- 'laws.FnExactExprText', WHERE WHAT IT READS IS OF BULK AT MOST 1048576: true; the input reads as it did. -/
def fnExactExprTextUptoRow : OpenClaim := { program := "ytdhmioelmcdflaa", sum := "2832eb56f89e1191c2933531acb899e82642bdbadfd8940aa5d5eee8dfdfd1ea", func := "loop.example/stopgate/laws.FnExactExprText", spec := "fnExactExprText", inPlace := ["internal/abi.NoEscape", "internal/bytealg.MakeNoZero"], unfollowed := true, recurses := true, loops := true, plainKeys := false, apart := false, narrowed := true }
def FnExactExprTextUptoSaid : Prop := fnExactExprTextUptoRow.holds Try.pinned (OpenSpec.upto fnExactExprTextSpec)

end Rows
end Go.Proofs.Ytdhmioelmcdflaa
