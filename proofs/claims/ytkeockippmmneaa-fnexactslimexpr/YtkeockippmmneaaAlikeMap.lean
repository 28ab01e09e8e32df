/-
  A map whose keys hold two pointers and a number: a key whose first pointer leads to a block of its own is not there; then it is laid in.
-/
import Derived.Test.YtkeockippmmneaaKit
import Derived.LaidEql
import Derived.Laws.StructEq
import Derived.Carry
import Derived.RangeFuncRecord
namespace Go.Proofs.Ytkeockippmmneaa
open Go.ChangeShapes Go.WideShapes Go.ChangeAt Go.RowKit
set_option linter.unusedVariables false
set_option maxRecDepth 100000

/-- A row that may be written lies here. -/
structure RowAt (w : World) (b off : Nat) : Prop where
  c : ∃ v, w.cell? ⟨b, off, none⟩ = some v
  f : ∀ o, w.frozen? ⟨b, off + o, none⟩ = false

theorem RowAt.kept {w w' : World} {b off : Nat} (h : RowAt w b off) (hk : w'.heap[b]? = w.heap[b]?) : RowAt w' b off :=
  ⟨by obtain ⟨v, hv⟩ := h.c; exact ⟨v, by rw [World.cell?_of_block (w := w) hk]; exact hv⟩, fun o => by rw [World.frozen?_of_block (w := w) hk]; exact h.f o⟩

theorem RowAt.block {w : World} {b off : Nat} (h : RowAt w b off) : ∃ c t fr, w.heap[b]? = some (.cells c t fr) ∧ off < c.size := by
  obtain ⟨v, hv⟩ := h.c
  unfold World.cell? at hv
  split at hv
  · rename_i c t fr hb
    simp at hv
    exact ⟨c, t, fr, hb, (Array.getElem?_eq_some_iff.mp hv).1⟩
  · cases hv

theorem sameAddr_apart {P : Program} {w : World} {b off b' off' : Nat} (h : RowAt w b off) (h' : RowAt w b' off') (hne : b ≠ b') : (sameAddr ⟨b, off, none⟩ ⟨b', off', none⟩).run P w = .ok false w := by
  obtain ⟨c, t, fr, hb, hlt⟩ := h.block
  obtain ⟨c', t', fr', hb', hlt'⟩ := h'.block
  have f0 := h.f 0
  have f1 := h.f (c.size - off)
  have f0' := h'.f 0
  have f1' := h'.f (c'.size - off')
  rw [Nat.add_zero] at f0 f0'
  rw [show off + (c.size - off) = c.size by omega] at f1
  rw [show off' + (c'.size - off') = c'.size by omega] at f1'
  have s1 : w.shape? b = some (t, c.size) := by simp [World.shape?, hb]
  have s2 : w.shape? b' = some (t', c'.size) := by simp [World.shape?, hb']
  simp [sameAddr, hne, f0, f0', f1, f1', s1, s2, noView, viewAt, mayBeOne, stringish]

/-- A key: two pointers, and how many. -/
def keyV (p q : Go.Addr) (n : Int) : Value := .agg #[.pointer (some p), .pointer (some q), .int .i64 n]

theorem und_key : Try.prog.underlying 109 = some (.struct (Try.prog.fieldsOf 109)) := by kernel_rfl
theorem held_key : Try.prog.stoodInHeld 109 = false := by kernel_rfl
theorem und_ptr : Try.prog.underlying 107 = some (.pointer 31) := by kernel_rfl
theorem info_size : (Try.prog.info? 31).map (·.size) = some 5 := by kernel_rfl
theorem check_key (e : Bool) (p q : Go.Addr) (n : Int) (w : World) : (Instr.checkKey e 10000 109 (keyV p q n)).run Try.prog w = .ok () w := by kernel_rfl

theorem head_key : ((Try.prog.fieldsOf 109).toList.head?).map (fun f => (f.name == "_", f.type, f.offset)) = some (false, 107, 0) := by kernel_rfl

theorem part0 (p q : Go.Addr) (n : Int) (w : World) : (part 107 #[.pointer (some p), .pointer (some q), .int .i64 n] 0).run Try.prog w = .ok (.pointer (some p)) w := by kernel_rfl

theorem equalIn_apart {w : World} {b off b' off' d : Nat} (h : RowAt w b off) (h' : RowAt w b' off') (hne : b ≠ b') :
    (Op.equalIn (d + 1) 107 (.pointer (some ⟨b, off, none⟩)) (.pointer (some ⟨b', off', none⟩))).run Try.prog w = .ok false w := by
  obtain ⟨i, hi, hs⟩ := Option.map_eq_some_iff.mp info_size
  simp [Op.equalIn, run_underlying und_ptr, sizeOf, typeInfo, hi, hs, sameAddr_apart h h' hne]

theorem equal_apart {w : World} {b off b' off' : Nat} (h : RowAt w b off) (h' : RowAt w b' off') (hne : b ≠ b') (q q' : Go.Addr) (n n' : Int) :
    (Op.equal 109 (keyV ⟨b, off, none⟩ q n) (keyV ⟨b', off', none⟩ q' n')).run Try.prog w = .ok false w := by
  unfold Op.equal Op.maxDepth keyV
  rw [run_equalIn_struct w 9999 _ _ _ und_key held_key]
  have hh := head_key
  generalize (Try.prog.fieldsOf 109).toList = fs at hh
  cases fs with
  | nil => simp at hh
  | cons f fs =>
    simp only [List.head?_cons, Option.map_some, Option.some.injEq, Prod.mk.injEq] at hh
    obtain ⟨h1, h2, h3⟩ := hh
    have h1' : f.name ≠ "_" := by simpa using h1
    have he := equalIn_apart (d := 9998) h h' hne
    rw [Op.eqFields, if_pos h1', h2, h3]
    simp only [Sem.run_bind, part0, Result.andThen_ok, he]
    simp

/-- All keys of the entries lead to rows in other blocks than b. -/
def Others (w : World) (b : Nat) (es : List MapEntry) : Prop := ∀ x ∈ es, ∃ b' off' q' n', x.key = keyV ⟨b', off', none⟩ q' n' ∧ RowAt w b' off' ∧ b ≠ b'

theorem findAsking_none {w : World} {b off : Nat} (h : RowAt w b off) (q : Go.Addr) (n : Int) : ∀ (es : List MapEntry) (i : Nat), Others w b es → (Instr.findAsking 109 (keyV ⟨b, off, none⟩ q n) es i).run Try.prog w = .ok none w
  | [], i, _ => by simp [Instr.findAsking]
  | x :: es, i, ho => by
    obtain ⟨b', off', q', n', hx, hr, hne⟩ := ho x (.head _)
    have ih := findAsking_none h q n es (i + 1) fun y hy => ho y (.tail _ hy)
    simp [Instr.findAsking, hx, equal_apart h hr hne, ih]

theorem findKey_none {w : World} {b off : Nat} (h : RowAt w b off) (q : Go.Addr) (n : Int) (es : List MapEntry) (ho : Others w b es) : (Instr.findKey 109 (keyV ⟨b, off, none⟩ q n) es).run Try.prog w = .ok none w := by
  have hf := findAsking_none h q n es 0 ho
  unfold Instr.findKey
  simp only [Sem.run_bind, run_underlying und_key, Result.andThen_ok]
  cases es with
  | nil => simp [Instr.findNow]
  | cons x es =>
    have : Instr.findNow (.struct (Try.prog.fieldsOf 109)) (keyV ⟨b, off, none⟩ q n) (x :: es) 0 = none := by simp [Instr.findNow, Instr.sameNow]
    rw [this]
    exact hf

theorem und_map : Try.prog.underlying 103 = some (.map 109 94) := by kernel_rfl

theorem get_map {P : Program} {w : World} {r clock : Nat} {es : Array MapEntry} (hm : w.heap[r]? = some (.map es clock)) : (getObj r).run P w = .ok (.map es clock) w := by simp [getObj, Sem.run, hm]
theorem set_map {P : Program} {w : World} {r clock : Nat} {es : Array MapEntry} (o : Obj) (hm : w.heap[r]? = some (.map es clock)) : (setObj r o).run P w = .ok () (w.putObj r o) := by simp [setObj, Sem.run, hm, World.putObj]

theorem lookup_none {w : World} {b off r clock : Nat} {es : Array MapEntry} (hm : w.heap[r]? = some (.map es clock)) (h : RowAt w b off) (q : Go.Addr) (n : Int) (ho : Others w b es.toList) :
    (Instr.lookup 103 (.map (some r)) (keyV ⟨b, off, none⟩ q n) true).run Try.prog w = .ok (.tuple #[.agg #[], .bool false]) w := by
  have hf := findKey_none h q n es.toList ho
  have hc := check_key es.isEmpty ⟨b, off, none⟩ q n w
  unfold Instr.lookup
  simp [run_underlying und_map, get_map hm, hc, hf]

theorem update_none {w : World} {b off r clock : Nat} {es : Array MapEntry} (hm : w.heap[r]? = some (.map es clock)) (h : RowAt w b off) (q : Go.Addr) (n : Int) (ho : Others w b es.toList) (v : Value) :
    (Instr.mapUpdate 103 (.map (some r)) (keyV ⟨b, off, none⟩ q n) v).run Try.prog w = .ok () (w.putObj r (.map (es.push { key := keyV ⟨b, off, none⟩ q n, val := v, born := clock }) (clock + 1))) := by
  have hf := findKey_none h q n es.toList ho
  have hc := check_key false ⟨b, off, none⟩ q n w
  unfold Instr.mapUpdate
  simp [run_underlying und_map, get_map hm, hc, hf, set_map _ hm]
end Go.Proofs.Ytkeockippmmneaa
