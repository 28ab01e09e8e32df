/-
  What a line of code is, and the text of code, as data. (Written by our generator gen_codetext.py.)
-/
import Derived.Test.YtoodhchphhhjfaaDoorWordKit
import Derived.Test.YtoodhchphhhjfaaDoorInsData
import Derived.Lib.ItoaLen
namespace Go.Proofs.YtoodhchphhhjfaaDoor
open Go.ChangeShapes Go.WideShapes Go.ChangeAt Go.RowKit
set_option linter.unusedVariables false

/-- The line of an instruction. -/
def lineL (p : InsD) : List UInt8 :=
  if p.op = 1 then [112, 117, 115, 104, 32] ++ Lib.itoa p.n
  else if p.op = 2 then [108, 111, 97, 100, 32] ++ (addrText ⟨p.ak, p.at_⟩).data.toList
  else if p.op = 3 then [115, 116, 111, 114, 101, 32] ++ (addrText ⟨p.ak, p.at_⟩).data.toList
  else if p.op = 4 then (if 3 ≤ p.n ∧ p.n ≤ 9 then wordL p.n.toNat else [110, 111, 110, 101])
  else if p.op = 5 then [110, 111, 116]
  else if p.op = 6 then [115, 107, 105, 112, 32] ++ Lib.itoa p.n
  else if p.op = 7 then [106, 117, 109, 112, 32] ++ Lib.itoa p.n
  else if p.op = 8 then [98, 97, 99, 107, 32] ++ Lib.itoa p.n
  else [110, 111, 110, 101]

/-- The text of code. -/
def codeTextL (ps : List InsD) : List UInt8 := (ps.map fun p => lineL p ++ [10]).flatten

/-- A number of the language's. -/
def InN (p : InsD) : Prop := -9223372036854775808 ≤ p.n ∧ p.n ≤ 9223372036854775807

theorem lineL_len {p : InsD} (h : InN p) : (lineL p).length ≤ 26 := by
  have h1 := Lib.itoa_length_le p.n h.1 h.2
  have h2 := addrText_size ⟨p.ak, p.at_⟩
  have h2' : (addrText ⟨p.ak, p.at_⟩).size = (addrText ⟨p.ak, p.at_⟩).data.toList.length := by rw [Array.length_toList]; rfl
  have h3 := wordL_len p.n.toNat
  unfold lineL
  repeat' split
  all_goals first
    | (rw [List.length_append]; simp only [List.length_cons, List.length_nil]; omega)
    | (simp only [List.length_cons, List.length_nil]; omega)
    | omega

theorem bytes_lit (x : List UInt8) (B : ByteArray) : (⟨x.toArray⟩ ++ B : ByteArray) = ⟨(x ++ B.data.toList).toArray⟩ := by
  obtain ⟨b⟩ := B
  rw [bytes_app]
  simp

theorem codeText_take {ps : List InsD} {j : Nat} {p : InsD} (h : ps[j]? = some p) : codeTextL (ps.take (j + 1)) = codeTextL (ps.take j) ++ lineL p ++ [10] := by
  unfold codeTextL
  rw [List.take_add_one, h]
  simp

theorem codeTextL_len : ∀ {ps : List InsD}, (∀ p, p ∈ ps → InN p) → (codeTextL ps).length ≤ 27 * ps.length
  | [], _ => by simp [codeTextL]
  | p :: ps, h => by
    have h1 := codeTextL_len (ps := ps) fun q hq => h q (List.mem_cons_of_mem _ hq)
    have h2 := lineL_len (h p (List.mem_cons_self ..))
    unfold codeTextL at *
    rw [List.map_cons, List.flatten_cons, List.length_append, List.length_append, List.length_cons]
    simp only [List.length_cons, List.length_nil]
    omega
end Go.Proofs.YtoodhchphhhjfaaDoor
