/-
  NARROWER THAN 'FOR EVERY INPUT', by the rows' own cells (each row's printed sentence says how): FnExactStmtsOk: loops · FnExactStmtsSame: loops · FnExactStmtsMany: loops.
  DERIVED. THE GIVEN ROWS OF THIS SEAT. 3 by the template 'for every input the law returns true; each argument reads behind the call as it read before'; 0 by the template 'total and deterministic' (their statements: YtdlcdllmhacaaaaTotals.lean).
  GIVEN WITH THE SEED: the statements are not yours to turn. If you find one false, say at which input.
  Laid BY PROGRAM, IN A SANDBOX (cutbox-rows.mjs): the forced cells as the released guide's own fill.sh prints them over the translation bda0a6007540df16… (all of the seat's roots in one cut). By AI agents, Wed Nov 11 2026. No macro, syntax, notation, axiom, sorry.
-/
import Derived.Test.YtdlcdllmhacaaaaChecked
import GoSem.Claim
import GoSem.ClaimJoined
import GoSem.ClaimMapViews
import Derived.JoinedTies
import Derived.KernelRfl
namespace Go.Proofs.Ytdlcdllmhacaaaa
/- THE CELL 'sum', in the pinned program and in every row, IS THE sha256 OF THE DUMP (.gsa) THAT YtdlcdllmhacaaaaProg.lean LOADS. Nothing in Lean hashes anything: it is a label: what it is worth is what the hold of that sum in a sandbox is worth. -/
noncomputable def Try.pinned : Pinned := { name := "ytdlcdllmhacaaaa", sum := "bda0a6007540df16d719bb6568904cae9d4e726d29046a7ca66a20d042786ca9", checked := Try.checked }
namespace Rows
def none {H : Type} : Left H := { results := [], args := [] }

/-- 'laws.FnExactStmtsOk': WHATEVER THE INPUT: true; the input reads as it did. -/
def fnExactStmtsOkSpec : ChangeSpec := { name := "fnExactStmtsOk", fn := fun _ => fun
  | [d] => { results := [.lit (.bool true)], args := [d] }
  | _ => none }
def fnExactStmtsOkRow : OpenClaim := { program := "ytdlcdllmhacaaaa", sum := "bda0a6007540df16d719bb6568904cae9d4e726d29046a7ca66a20d042786ca9", func := "loop.example/stopgate/laws.FnExactStmtsOk", spec := "fnExactStmtsOk", unfollowed := true, recurses := true, loops := true, plainKeys := false, apart := false }
def FnExactStmtsOkSaid : Prop := fnExactStmtsOkRow.holds Try.pinned (OpenSpec.ofChange fnExactStmtsOkSpec)

/-- ITS FALSE NEIGHBOUR: 'it returns false'. Refute it at one input. -/
def fnExactStmtsOkWrong : ChangeSpec := { name := "fnExactStmtsOk", fn := fun _ => fun
  | [d] => { results := [.lit (.bool false)], args := [d] }
  | _ => none }
def FnExactStmtsOkWrongFalsely : Prop := fnExactStmtsOkRow.holds Try.pinned (OpenSpec.ofChange fnExactStmtsOkWrong)

/-- 'laws.FnExactStmtsSame': WHATEVER THE INPUT: true; the input reads as it did. -/
def fnExactStmtsSameSpec : ChangeSpec := { name := "fnExactStmtsSame", fn := fun _ => fun
  | [d1, d2] => { results := [.lit (.bool true)], args := [d1, d2] }
  | _ => none }
def fnExactStmtsSameRow : OpenClaim := { program := "ytdlcdllmhacaaaa", sum := "bda0a6007540df16d719bb6568904cae9d4e726d29046a7ca66a20d042786ca9", func := "loop.example/stopgate/laws.FnExactStmtsSame", spec := "fnExactStmtsSame", recurses := true, loops := true, plainKeys := false, apart := false }
def FnExactStmtsSameSaid : Prop := fnExactStmtsSameRow.holds Try.pinned (OpenSpec.ofChange fnExactStmtsSameSpec)

/-- ITS FALSE NEIGHBOUR: 'it returns false'. Refute it at one input. -/
def fnExactStmtsSameWrong : ChangeSpec := { name := "fnExactStmtsSame", fn := fun _ => fun
  | [d1, d2] => { results := [.lit (.bool false)], args := [d1, d2] }
  | _ => none }
def FnExactStmtsSameWrongFalsely : Prop := fnExactStmtsSameRow.holds Try.pinned (OpenSpec.ofChange fnExactStmtsSameWrong)

/-- 'laws.FnExactStmtsMany': WHATEVER THE INPUT: true; the input reads as it did. -/
def fnExactStmtsManySpec : ChangeSpec := { name := "fnExactStmtsMany", fn := fun _ => fun
  | [d] => { results := [.lit (.bool true)], args := [d] }
  | _ => none }
def fnExactStmtsManyRow : OpenClaim := { program := "ytdlcdllmhacaaaa", sum := "bda0a6007540df16d719bb6568904cae9d4e726d29046a7ca66a20d042786ca9", func := "loop.example/stopgate/laws.FnExactStmtsMany", spec := "fnExactStmtsMany", unfollowed := true, recurses := true, loops := true, plainKeys := false, apart := false }
def FnExactStmtsManySaid : Prop := fnExactStmtsManyRow.holds Try.pinned (OpenSpec.ofChange fnExactStmtsManySpec)

/-- ITS FALSE NEIGHBOUR: 'it returns false'. Refute it at one input. -/
def fnExactStmtsManyWrong : ChangeSpec := { name := "fnExactStmtsMany", fn := fun _ => fun
  | [d] => { results := [.lit (.bool false)], args := [d] }
  | _ => none }
def FnExactStmtsManyWrongFalsely : Prop := fnExactStmtsManyRow.holds Try.pinned (OpenSpec.ofChange fnExactStmtsManyWrong)

/- THE SECOND FORM. 'bulk': how many values and letters a reading holds, each counted each time it is reached (what is shared counts as often as it is met; a slice's spare places count too). A statement '..UptoSaid' is the law's where the arguments, and the package variables that the reading takes, are together of bulk at most 1048576: NARROWER than '..Said'. Prove '..Said' where nothing that the law and all that it calls make is longer than what came in: it says more and counts as full. Else prove '..UptoSaid'. A law counts once. -/
mutual
def uptoBulk {H : Type} : DataW H → Nat
  | .lit (.string bytes) => bytes.length + 1
  | .lit _ => 1
  | .nil => 1
  | .ptr d => uptoBulk d + 1
  | .slice elems spare => uptoBulkAll elems + uptoBulkAll spare + 1
  | .agg parts => uptoBulkAll parts + 1
  | .iface _ d => uptoBulk d + 1
  | .map entries => uptoBulkEntries entries + 1
  | .held _ => 1
def uptoBulkAll {H : Type} : List (DataW H) → Nat
  | [] => 0
  | d :: r => uptoBulk d + uptoBulkAll r
def uptoBulkEntries {H : Type} : List (Lit × DataW H) → Nat
  | [] => 0
  | x :: r => uptoBulkEntry x + uptoBulkEntries r
def uptoBulkEntry {H : Type} : Lit × DataW H → Nat
  | (.string bytes, d) => bytes.length + uptoBulk d + 1
  | (_, d) => uptoBulk d + 1
 end
def uptoSmall : (H : Type) → List (DataW H) → Bool := fun _ ds => decide (uptoBulkAll ds ≤ 1048576)
def OpenSpec.upto (s : _root_.Go.ChangeSpec) : _root_.Go.OpenSpec := { _root_.Go.OpenSpec.ofChange s with cond := some uptoSmall }

/-- 'laws.FnExactStmtsOk', WHERE WHAT IT READS IS OF BULK AT MOST 1048576: true; the input reads as it did. -/
def fnExactStmtsOkUptoRow : OpenClaim := { program := "ytdlcdllmhacaaaa", sum := "bda0a6007540df16d719bb6568904cae9d4e726d29046a7ca66a20d042786ca9", func := "loop.example/stopgate/laws.FnExactStmtsOk", spec := "fnExactStmtsOk", unfollowed := true, recurses := true, loops := true, plainKeys := false, apart := false, narrowed := true }
def FnExactStmtsOkUptoSaid : Prop := fnExactStmtsOkUptoRow.holds Try.pinned (OpenSpec.upto fnExactStmtsOkSpec)

/-- 'laws.FnExactStmtsSame', WHERE WHAT IT READS IS OF BULK AT MOST 1048576: true; the input reads as it did. -/
def fnExactStmtsSameUptoRow : OpenClaim := { program := "ytdlcdllmhacaaaa", sum := "bda0a6007540df16d719bb6568904cae9d4e726d29046a7ca66a20d042786ca9", func := "loop.example/stopgate/laws.FnExactStmtsSame", spec := "fnExactStmtsSame", recurses := true, loops := true, plainKeys := false, apart := false, narrowed := true }
def FnExactStmtsSameUptoSaid : Prop := fnExactStmtsSameUptoRow.holds Try.pinned (OpenSpec.upto fnExactStmtsSameSpec)

/-- 'laws.FnExactStmtsMany', WHERE WHAT IT READS IS OF BULK AT MOST 1048576: true; the input reads as it did. -/
def fnExactStmtsManyUptoRow : OpenClaim := { program := "ytdlcdllmhacaaaa", sum := "bda0a6007540df16d719bb6568904cae9d4e726d29046a7ca66a20d042786ca9", func := "loop.example/stopgate/laws.FnExactStmtsMany", spec := "fnExactStmtsMany", unfollowed := true, recurses := true, loops := true, plainKeys := false, apart := false, narrowed := true }
def FnExactStmtsManyUptoSaid : Prop := fnExactStmtsManyUptoRow.holds Try.pinned (OpenSpec.upto fnExactStmtsManySpec)

end Rows
end Go.Proofs.Ytdlcdllmhacaaaa
