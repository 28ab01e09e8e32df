/-
  A map whose keys hold two pointers to statements and a number: a key whose first pointer leads to a block of its own is not there; then it is laid in.
-/
import Derived.Test.YtaoiookfmgpmkaaPM10
namespace Go.Proofs.Ytaoiookfmgpmkaa
open Go.ChangeShapes Go.WideShapes Go.ChangeAt Go.RowKit
set_option linter.unusedVariables false
set_option maxRecDepth 100000

theorem und_keyT : Try.prog.underlying 130 = some (.struct (Try.prog.fieldsOf 130)) := by kernel_rfl
theorem held_keyT : Try.prog.stoodInHeld 130 = false := by kernel_rfl
theorem und_ptrT : Try.prog.underlying 128 = some (.pointer 101) := by kernel_rfl
theorem info_sizeT : (Try.prog.info? 101).map (·.size) = some 10 := by kernel_rfl
theorem check_keyT (e : Bool) (p q : Go.Addr) (n : Int) (w : World) : (Instr.checkKey e 10000 130 (keyV p q n)).run Try.prog w = .ok () w := by kernel_rfl

theorem head_keyT : ((Try.prog.fieldsOf 130).toList.head?).map (fun f => (f.name == "_", f.type, f.offset)) = some (false, 128, 0) := by kernel_rfl

theorem part0T (p q : Go.Addr) (n : Int) (w : World) : (part 128 #[.pointer (some p), .pointer (some q), .int .i64 n] 0).run Try.prog w = .ok (.pointer (some p)) w := by kernel_rfl

theorem equalIn_apartT {w : World} {b off b' off' d : Nat} (h : RowAt w b off) (h' : RowAt w b' off') (hne : b ≠ b') :
    (Op.equalIn (d + 1) 128 (.pointer (some ⟨b, off, none⟩)) (.pointer (some ⟨b', off', none⟩))).run Try.prog w = .ok false w := by
  obtain ⟨i, hi, hs⟩ := Option.map_eq_some_iff.mp info_sizeT
  simp [Op.equalIn, run_underlying und_ptrT, sizeOf, typeInfo, hi, hs, sameAddr_apart h h' hne]

theorem equal_apartT {w : World} {b off b' off' : Nat} (h : RowAt w b off) (h' : RowAt w b' off') (hne : b ≠ b') (q q' : Go.Addr) (n n' : Int) :
    (Op.equal 130 (keyV ⟨b, off, none⟩ q n) (keyV ⟨b', off', none⟩ q' n')).run Try.prog w = .ok false w := by
  unfold Op.equal Op.maxDepth keyV
  rw [run_equalIn_struct w 9999 _ _ _ und_keyT held_keyT]
  have hh := head_keyT
  generalize (Try.prog.fieldsOf 130).toList = fs at hh
  cases fs with
  | nil => simp at hh
  | cons f fs =>
    simp only [List.head?_cons, Option.map_some, Option.some.injEq, Prod.mk.injEq] at hh
    obtain ⟨h1, h2, h3⟩ := hh
    have h1' : f.name ≠ "_" := by simpa using h1
    have he := equalIn_apartT (d := 9998) h h' hne
    rw [Op.eqFields, if_pos h1', h2, h3]
    simp only [Sem.run_bind, part0T, Result.andThen_ok, he]
    simp

theorem findAsking_noneT {w : World} {b off : Nat} (h : RowAt w b off) (q : Go.Addr) (n : Int) : ∀ (es : List MapEntry) (i : Nat), Others w b es → (Instr.findAsking 130 (keyV ⟨b, off, none⟩ q n) es i).run Try.prog w = .ok none w
  | [], i, _ => by simp [Instr.findAsking]
  | x :: es, i, ho => by
    obtain ⟨b', off', q', n', hx, hr, hne⟩ := ho x (.head _)
    have ih := findAsking_noneT h q n es (i + 1) fun y hy => ho y (.tail _ hy)
    simp [Instr.findAsking, hx, equal_apartT h hr hne, ih]

theorem findKey_noneT {w : World} {b off : Nat} (h : RowAt w b off) (q : Go.Addr) (n : Int) (es : List MapEntry) (ho : Others w b es) : (Instr.findKey 130 (keyV ⟨b, off, none⟩ q n) es).run Try.prog w = .ok none w := by
  have hf := findAsking_noneT h q n es 0 ho
  unfold Instr.findKey
  simp only [Sem.run_bind, run_underlying und_keyT, Result.andThen_ok]
  cases es with
  | nil => simp [Instr.findNow]
  | cons x es =>
    have : Instr.findNow (.struct (Try.prog.fieldsOf 130)) (keyV ⟨b, off, none⟩ q n) (x :: es) 0 = none := by simp [Instr.findNow, Instr.sameNow]
    rw [this]
    exact hf

theorem und_mapT : Try.prog.underlying 124 = some (.map 130 131) := by kernel_rfl

theorem lookup_noneT {w : World} {b off r clock : Nat} {es : Array MapEntry} (hm : w.heap[r]? = some (.map es clock)) (h : RowAt w b off) (q : Go.Addr) (n : Int) (ho : Others w b es.toList) :
    (Instr.lookup 124 (.map (some r)) (keyV ⟨b, off, none⟩ q n) true).run Try.prog w = .ok (.tuple #[.agg #[], .bool false]) w := by
  have hf := findKey_noneT h q n es.toList ho
  have hc := check_keyT es.isEmpty ⟨b, off, none⟩ q n w
  unfold Instr.lookup
  simp [run_underlying und_mapT, get_map hm, hc, hf]

theorem update_noneT {w : World} {b off r clock : Nat} {es : Array MapEntry} (hm : w.heap[r]? = some (.map es clock)) (h : RowAt w b off) (q : Go.Addr) (n : Int) (ho : Others w b es.toList) (v : Value) :
    (Instr.mapUpdate 124 (.map (some r)) (keyV ⟨b, off, none⟩ q n) v).run Try.prog w = .ok () (w.putObj r (.map (es.push { key := keyV ⟨b, off, none⟩ q n, val := v, born := clock }) (clock + 1))) := by
  have hf := findKey_noneT h q n es.toList ho
  have hc := check_keyT false ⟨b, off, none⟩ q n w
  unfold Instr.mapUpdate
  simp [run_underlying und_mapT, get_map hm, hc, hf, set_map _ hm]
end Go.Proofs.Ytaoiookfmgpmkaa
