import Derived.Test.YtkeockippmmneaaGreatExprData
import Derived.Test.YtkeockippmmneaaGreatKit
import Derived.LaidEql
import Derived.Laws.StructEq
import Derived.Carry
import Derived.RangeFuncRecord
import Derived.Test.YtkeockippmmneaaGreatDag

/-
  Two parts held against each other, but for what their kids are.
-/
namespace Go.Proofs.YtkeockippmmneaaGreat
open Go.ChangeShapes Go.WideShapes Go.ChangeAt Go.RowKit
set_option linter.unusedVariables false
set_option maxRecDepth 100000

/-- The same but for what the kids are. -/
def bareB (a b : ExprD) : Bool := (a.k == b.k) && ((a.n == b.n) && (((a.ak == b.ak) && (a.at_ == b.at_)) && ((a.kids.length : Int) == (b.kids.length : Int))))

set_option maxHeartbeats 8000000 in
theorem sameBare_any (w : World) (a b : ExprD) (ad ad' : Option Go.Addr) (cap cap' : Nat) (h1 : a.kids.length ≤ 1048576) (h2 : b.kids.length ≤ 1048576) :
    Calls Tryz.prog 77 #[.agg #[.int .i64 a.k, .int .i64 a.n, .int .i64 a.ak, .int .i64 a.at_, .slice ad a.kids.length cap, .int .i64 b.k, .int .i64 b.n, .int .i64 b.ak, .int .i64 b.at_, .slice ad' b.kids.length cap']] w fun e w' => e = .returned (.bool (bareB a b)) ∧ Below w.heap.size w w' := by
  have b1 := fun o => (Below.refl w.heap.size w).alloc (Nat.le_refl _) o
  unfold bareB
  generalize hla : a.kids.length = la at *
  generalize hlb : b.kids.length = lb at *
  generalize hak : a.k = ak at *
  generalize hbk : b.k = bk at *
  generalize han : a.n = an at *
  generalize hbn : b.n = bn at *
  generalize haa : a.ak = aa at *
  generalize hba : b.ak = ba at *
  generalize hat : a.at_ = at_ at *
  generalize hbt : b.at_ = bt at *
  clear hla hlb hak hbk han hbn haa hba hat hbt
  cases e1 : (ak == bk) with
  | false =>
    go_enter Tryz.func77, Tryz.ntmps77
    go_wp2
    go_ret
    exact ⟨rfl, b1 _⟩
  | true =>
    cases e2 : (an == bn) with
    | false =>
      go_enter Tryz.func77, Tryz.ntmps77
      go_wp2
      go_ret
      exact ⟨rfl, b1 _⟩
    | true =>
      cases e3 : (aa == ba) with
      | false =>
        go_enter Tryz.func77, Tryz.ntmps77
        go_wp2
        go_ret
        exact ⟨rfl, b1 _⟩
      | true =>
        cases e4 : (at_ == bt) with
        | false =>
          go_enter Tryz.func77, Tryz.ntmps77
          go_wp2
          go_ret
          exact ⟨rfl, b1 _⟩
        | true =>
          cases e5 : ((la : Int) == (lb : Int)) with
          | false =>
            go_enter Tryz.func77, Tryz.ntmps77
            go_wp2
            go_ret
            exact ⟨rfl, b1 _⟩
          | true =>
            go_enter Tryz.func77, Tryz.ntmps77
            go_wp2
            go_ret
            exact ⟨rfl, b1 _⟩
end Go.Proofs.YtkeockippmmneaaGreat

/-
  A map whose keys hold two pointers and a number: a key whose first pointer leads to a block of its own is not there; then it is laid in.
-/
namespace Go.Proofs.YtkeockippmmneaaGreat
open Go.ChangeShapes Go.WideShapes Go.ChangeAt Go.RowKit
set_option linter.unusedVariables false
set_option maxRecDepth 100000

/-- A row that may be written lies here. -/
structure RowAt (w : World) (b off : Nat) : Prop where
  c : ∃ v, w.cell? ⟨b, off, none⟩ = some v
  f : ∀ o, w.frozen? ⟨b, off + o, none⟩ = false

theorem RowAt.kept {w w' : World} {b off : Nat} (h : RowAt w b off) (hk : w'.heap[b]? = w.heap[b]?) : RowAt w' b off :=
  ⟨by obtain ⟨v, hv⟩ := h.c; exact ⟨v, by rw [World.cell?_of_block (w := w) hk]; exact hv⟩, fun o => by rw [World.frozen?_of_block (w := w) hk]; exact h.f o⟩

theorem RowAt.block {w : World} {b off : Nat} (h : RowAt w b off) : ∃ c t fr, w.heap[b]? = some (.cells c t fr) ∧ off < c.size := by
  obtain ⟨v, hv⟩ := h.c
  unfold World.cell? at hv
  split at hv
  · rename_i c t fr hb
    simp at hv
    exact ⟨c, t, fr, hb, (Array.getElem?_eq_some_iff.mp hv).1⟩
  · cases hv

theorem sameAddr_apart {P : Program} {w : World} {b off b' off' : Nat} (h : RowAt w b off) (h' : RowAt w b' off') (hne : b ≠ b') : (sameAddr ⟨b, off, none⟩ ⟨b', off', none⟩).run P w = .ok false w := by
  obtain ⟨c, t, fr, hb, hlt⟩ := h.block
  obtain ⟨c', t', fr', hb', hlt'⟩ := h'.block
  have f0 := h.f 0
  have f1 := h.f (c.size - off)
  have f0' := h'.f 0
  have f1' := h'.f (c'.size - off')
  rw [Nat.add_zero] at f0 f0'
  rw [show off + (c.size - off) = c.size by omega] at f1
  rw [show off' + (c'.size - off') = c'.size by omega] at f1'
  have s1 : w.shape? b = some (t, c.size) := by simp [World.shape?, hb]
  have s2 : w.shape? b' = some (t', c'.size) := by simp [World.shape?, hb']
  simp [sameAddr, hne, f0, f0', f1, f1', s1, s2, noView, viewAt, mayBeOne, stringish]

/-- A key: two pointers, and how many. -/
def keyV (p q : Go.Addr) (n : Int) : Value := .agg #[.pointer (some p), .pointer (some q), .int .i64 n]

theorem und_key : Tryz.prog.underlying 108 = some (.struct (Tryz.prog.fieldsOf 108)) := by kernel_rfl
theorem held_key : Tryz.prog.stoodInHeld 108 = false := by kernel_rfl
theorem und_ptr : Tryz.prog.underlying 106 = some (.pointer 42) := by kernel_rfl
theorem info_size : (Tryz.prog.info? 42).map (·.size) = some 5 := by kernel_rfl
theorem check_key (e : Bool) (p q : Go.Addr) (n : Int) (w : World) : (Instr.checkKey e 10000 108 (keyV p q n)).run Tryz.prog w = .ok () w := by kernel_rfl

theorem head_key : ((Tryz.prog.fieldsOf 108).toList.head?).map (fun f => (f.name == "_", f.type, f.offset)) = some (false, 106, 0) := by kernel_rfl

theorem part0 (p q : Go.Addr) (n : Int) (w : World) : (part 106 #[.pointer (some p), .pointer (some q), .int .i64 n] 0).run Tryz.prog w = .ok (.pointer (some p)) w := by kernel_rfl

theorem equalIn_apart {w : World} {b off b' off' d : Nat} (h : RowAt w b off) (h' : RowAt w b' off') (hne : b ≠ b') :
    (Op.equalIn (d + 1) 106 (.pointer (some ⟨b, off, none⟩)) (.pointer (some ⟨b', off', none⟩))).run Tryz.prog w = .ok false w := by
  obtain ⟨i, hi, hs⟩ := Option.map_eq_some_iff.mp info_size
  simp [Op.equalIn, run_underlying und_ptr, sizeOf, typeInfo, hi, hs, sameAddr_apart h h' hne]

theorem equal_apart {w : World} {b off b' off' : Nat} (h : RowAt w b off) (h' : RowAt w b' off') (hne : b ≠ b') (q q' : Go.Addr) (n n' : Int) :
    (Op.equal 108 (keyV ⟨b, off, none⟩ q n) (keyV ⟨b', off', none⟩ q' n')).run Tryz.prog w = .ok false w := by
  unfold Op.equal Op.maxDepth keyV
  rw [run_equalIn_struct w 9999 _ _ _ und_key held_key]
  have hh := head_key
  generalize (Tryz.prog.fieldsOf 108).toList = fs at hh
  cases fs with
  | nil => simp at hh
  | cons f fs =>
    simp only [List.head?_cons, Option.map_some, Option.some.injEq, Prod.mk.injEq] at hh
    obtain ⟨h1, h2, h3⟩ := hh
    have h1' : f.name ≠ "_" := by simpa using h1
    have he := equalIn_apart (d := 9998) h h' hne
    rw [Op.eqFields, if_pos h1', h2, h3]
    simp only [Sem.run_bind, part0, Result.andThen_ok, he]
    simp

/-- All keys of the entries lead to rows in other blocks than b. -/
def Others (w : World) (b : Nat) (es : List MapEntry) : Prop := ∀ x ∈ es, ∃ b' off' q' n', x.key = keyV ⟨b', off', none⟩ q' n' ∧ RowAt w b' off' ∧ b ≠ b'

theorem findAsking_none {w : World} {b off : Nat} (h : RowAt w b off) (q : Go.Addr) (n : Int) : ∀ (es : List MapEntry) (i : Nat), Others w b es → (Instr.findAsking 108 (keyV ⟨b, off, none⟩ q n) es i).run Tryz.prog w = .ok none w
  | [], i, _ => by simp [Instr.findAsking]
  | x :: es, i, ho => by
    obtain ⟨b', off', q', n', hx, hr, hne⟩ := ho x (.head _)
    have ih := findAsking_none h q n es (i + 1) fun y hy => ho y (.tail _ hy)
    simp [Instr.findAsking, hx, equal_apart h hr hne, ih]

theorem findKey_none {w : World} {b off : Nat} (h : RowAt w b off) (q : Go.Addr) (n : Int) (es : List MapEntry) (ho : Others w b es) : (Instr.findKey 108 (keyV ⟨b, off, none⟩ q n) es).run Tryz.prog w = .ok none w := by
  have hf := findAsking_none h q n es 0 ho
  unfold Instr.findKey
  simp only [Sem.run_bind, run_underlying und_key, Result.andThen_ok]
  cases es with
  | nil => simp [Instr.findNow]
  | cons x es =>
    have : Instr.findNow (.struct (Tryz.prog.fieldsOf 108)) (keyV ⟨b, off, none⟩ q n) (x :: es) 0 = none := by simp [Instr.findNow, Instr.sameNow]
    rw [this]
    exact hf

theorem und_map : Tryz.prog.underlying 102 = some (.map 108 109) := by kernel_rfl

theorem get_map {P : Program} {w : World} {r clock : Nat} {es : Array MapEntry} (hm : w.heap[r]? = some (.map es clock)) : (getObj r).run P w = .ok (.map es clock) w := by simp [getObj, Sem.run, hm]
theorem set_map {P : Program} {w : World} {r clock : Nat} {es : Array MapEntry} (o : Obj) (hm : w.heap[r]? = some (.map es clock)) : (setObj r o).run P w = .ok () (w.putObj r o) := by simp [setObj, Sem.run, hm, World.putObj]

theorem lookup_none {w : World} {b off r clock : Nat} {es : Array MapEntry} (hm : w.heap[r]? = some (.map es clock)) (h : RowAt w b off) (q : Go.Addr) (n : Int) (ho : Others w b es.toList) :
    (Instr.lookup 102 (.map (some r)) (keyV ⟨b, off, none⟩ q n) true).run Tryz.prog w = .ok (.tuple #[.agg #[], .bool false]) w := by
  have hf := findKey_none h q n es.toList ho
  have hc := check_key es.isEmpty ⟨b, off, none⟩ q n w
  unfold Instr.lookup
  simp [run_underlying und_map, get_map hm, hc, hf]

theorem update_none {w : World} {b off r clock : Nat} {es : Array MapEntry} (hm : w.heap[r]? = some (.map es clock)) (h : RowAt w b off) (q : Go.Addr) (n : Int) (ho : Others w b es.toList) (v : Value) :
    (Instr.mapUpdate 102 (.map (some r)) (keyV ⟨b, off, none⟩ q n) v).run Tryz.prog w = .ok () (w.putObj r (.map (es.push { key := keyV ⟨b, off, none⟩ q n, val := v, born := clock }) (clock + 1))) := by
  have hf := findKey_none h q n es.toList ho
  have hc := check_key false ⟨b, off, none⟩ q n w
  unfold Instr.mapUpdate
  simp [run_underlying und_map, get_map hm, hc, hf, set_map _ hm]
end Go.Proofs.YtkeockippmmneaaGreat

/-
  Pairs of parts that are still to be held against each other, as data and in memory.
-/
namespace Go.Proofs.YtkeockippmmneaaGreat
open Go.ChangeShapes Go.WideShapes Go.ChangeAt Go.RowKit
set_option linter.unusedVariables false
set_option maxRecDepth 100000

/-- A pair: two parts, where their kids lie; the first one's in the blocks from l to h. -/
structure Item where
  a : ExprD
  s : Value
  b : ExprD
  t : Value
  l : Nat
  h : Nat

def Item.cells (p : Item) : List Value := [.int .i64 p.a.k, .int .i64 p.a.n, .int .i64 p.a.ak, .int .i64 p.a.at_, p.s, .int .i64 p.b.k, .int .i64 p.b.n, .int .i64 p.b.ak, .int .i64 p.b.at_, p.t]

def rowP (ps : List Item) : List Value := ps.flatMap Item.cells

theorem rowP_length (ps : List Item) : (rowP ps).length = ps.length * 10 := by
  induction ps with
  | nil => rfl
  | cons p ps ih => unfold rowP at *; rw [List.flatMap_cons, List.length_append, ih, List.length_cons]; simp [Item.cells]; omega

theorem rowP_snoc (ps : List Item) (p : Item) : rowP (ps ++ [p]) = rowP ps ++ p.cells := by
  unfold rowP; rw [List.flatMap_append]; simp

theorem rowP_last (ps : List Item) (p : Item) (i : Nat) (hi : i < 10) : (rowP (ps ++ [p]))[ps.length * 10 + i]? = p.cells[i]? := by
  rw [rowP_snoc, List.getElem?_append_right (by rw [rowP_length]; omega), rowP_length]
  congr 1
  omega

/-- A pair's parts can be read; the first one's lists are owned. -/
structure ItemOk (w : World) (lo hi N : Nat) (p : Item) : Prop where
  ka : KO w p.l p.h p.s p.a.kids
  hh : p.h ≤ w.heap.size
  kb : KR w lo hi p.t p.b.kids
  na : manyE p.a ≤ N
  nb : manyE p.b ≤ N

def sumE : List Item → Nat
  | [] => 0
  | p :: ps => manyE p.a + sumE ps

theorem sumE_append (ps qs : List Item) : sumE (ps ++ qs) = sumE ps + sumE qs := by
  induction ps with
  | nil => rw [List.nil_append, sumE]; omega
  | cons p ps ih => rw [List.cons_append, sumE, sumE, ih]; omega

theorem length_le_sumE (ps : List Item) : ps.length ≤ sumE ps := by
  induction ps with
  | nil => rw [sumE]; exact Nat.le_refl _
  | cons p ps ih => rw [sumE, List.length_cons, manyE_eq]; omega

theorem bareB_iff (a b : ExprD) : bareB a b = true ↔ a.k = b.k ∧ a.n = b.n ∧ a.ak = b.ak ∧ a.at_ = b.at_ ∧ a.kids.length = b.kids.length := by
  unfold bareB
  simp only [Bool.and_eq_true, beq_iff_eq]
  constructor
  · rintro ⟨h1, h2, ⟨h3, h4⟩, h5⟩; exact ⟨h1, h2, h3, h4, by omega⟩
  · rintro ⟨h1, h2, h3, h4, h5⟩; exact ⟨h1, h2, ⟨h3, h4⟩, by omega⟩

theorem eq_of_bare {a b : ExprD} (h : bareB a b = true) : a = b ↔ a.kids = b.kids := by
  obtain ⟨h1, h2, h3, h4, _⟩ := (bareB_iff a b).1 h
  constructor
  · intro e; rw [e]
  · intro e; rw [ExprD.eta a, ExprD.eta b, h1, h2, h3, h4, e]

theorem bare_of_eq {a b : ExprD} (h : a = b) : bareB a b = true := by rw [bareB_iff]; subst h; exact ⟨rfl, rfl, rfl, rfl, rfl⟩

/-- The pairs of the kids. -/
structure KidItems (w : World) (lo hi N : Nat) (p : Item) (b off cap b' off' cap' : Nat) (ks : List Item) : Prop where
  sa : p.s = .slice (some ⟨b, off, none⟩) p.a.kids.length cap
  sb : p.t = .slice (some ⟨b', off', none⟩) p.b.kids.length cap'
  len : ks.length = p.a.kids.length
  at_ : ∀ (j : Nat) (k : Item), ks[j]? = some k → p.a.kids[j]? = some k.a ∧ p.b.kids[j]? = some k.b ∧ Cell5 w b (off + j * 5) k.a k.s ∧ Cell5 w b' (off' + j * 5) k.b k.t
  ok : ∀ k ∈ ks, ItemOk w lo hi N k
  rng : ∀ k ∈ ks, p.l ≤ k.l ∧ k.h ≤ p.h ∧ (b < k.l ∨ k.h ≤ b)
  dis : ks.Pairwise fun x y => x.h ≤ y.l ∨ y.h ≤ x.l
  row : RowAt w b off
  blk : p.l ≤ b ∧ b < p.h
  blk' : lo ≤ b' ∧ b' < hi

theorem manyE_at {es : List ExprD} {i : Nat} {e : ExprD} (h : es[i]? = some e) : manyE e ≤ manyL es := by
  have h1 := manyL_take_succ h
  have h2 := manyL_take_le es (i + 1)
  omega

theorem kid_items {w : World} {lo hi N : Nat} {p : Item} (h : ItemOk w lo hi N p) (hl : p.a.kids.length = p.b.kids.length) (h0 : 0 < p.a.kids.length) : ∃ b off cap b' off' cap' ks, KidItems w lo hi N p b off cap b' off' cap' ks := by
  obtain ⟨ka, hh, kb, na, nb⟩ := h
  obtain ⟨pa, ps, pb, pt, pl, ph⟩ := p
  simp only at *
  generalize hes : pa.kids = es at *
  generalize hfs : pb.kids = fs at *
  cases ka with
  | nil => simp at h0
  | cons _ _ b off cap _ ss l h hn h1 h2 h3 h4 hf hc hr hd hk =>
    cases kb with
    | nil => simp at hl; rw [hl] at h0; simp at h0
    | cons b' off' cap' _ tt hn' h1' h2' h3' h4' hc' hk' =>
      have hma : manyL es + 1 ≤ N := by rw [manyE_eq, hes] at na; omega
      have hmb : manyL fs + 1 ≤ N := by rw [manyE_eq, hfs] at nb; omega
      have hget : ∀ (j : Nat) (k : Item), ((List.range es.length).map fun i => (⟨(es[i]?).getD (.mk 0 0 0 0 []), ss i, (fs[i]?).getD (.mk 0 0 0 0 []), tt i, l i, h i⟩ : Item))[j]? = some k →
          j < es.length ∧ es[j]? = some k.a ∧ fs[j]? = some k.b ∧ k.s = ss j ∧ k.t = tt j ∧ k.l = l j ∧ k.h = h j := by
        intro j k hjk
        rw [List.getElem?_map] at hjk
        obtain ⟨i, hi, rfl⟩ := Option.map_eq_some_iff.mp hjk
        have hj : j < es.length := by have := (List.getElem?_eq_some_iff.mp hi).1; simpa using this
        have hij : i = j := by rw [List.getElem?_range hj] at hi; exact (Option.some.inj hi).symm
        subst hij
        refine ⟨hj, ?_, ?_, rfl, rfl, rfl, rfl⟩
        · show es[i]? = some ((es[i]?).getD _); rw [List.getElem?_eq_getElem hj]; rfl
        · show fs[i]? = some ((fs[i]?).getD _); rw [List.getElem?_eq_getElem (by omega)]; rfl
      refine ⟨b, off, cap, b', off', cap', (List.range es.length).map fun i => (⟨(es[i]?).getD (.mk 0 0 0 0 []), ss i, (fs[i]?).getD (.mk 0 0 0 0 []), tt i, l i, h i⟩ : Item), ⟨by simp only [hes], by simp only [hfs], by simp [hes], ?_, ?_, ?_, ?_, ?_, ⟨h3, h4⟩, ⟨h3', h4'⟩⟩⟩
      · intro j k hjk
        obtain ⟨hj, e1, e2, e3, e4, _, _⟩ := hget j k hjk
        simp only [hes, hfs]
        exact ⟨e1, e2, by rw [e3]; exact hc j _ e1, by rw [e4]; exact hc' j _ e2⟩
      · intro k hk9
        obtain ⟨j, hjk⟩ := List.mem_iff_getElem?.mp hk9
        obtain ⟨hj, e1, e2, e3, e4, e5, e6⟩ := hget j k hjk
        have hrj := hr j hj
        exact ⟨by rw [e3, e5, e6]; exact hk j _ e1, by rw [e6]; omega, by rw [e4]; exact hk' j _ e2, by have := manyE_at e1; omega, by have := manyE_at e2; omega⟩
      · intro k hk9
        obtain ⟨j, hjk⟩ := List.mem_iff_getElem?.mp hk9
        obtain ⟨hj, e1, e2, e3, e4, e5, e6⟩ := hget j k hjk
        have hrj := hr j hj
        rw [e5, e6]
        exact hrj
      · rw [List.pairwise_iff_getElem]
        intro i j hi hj hij
        obtain ⟨hi', _, _, _, _, e5, e6⟩ := hget i _ (List.getElem?_eq_getElem hi)
        obtain ⟨hj', _, _, _, _, e5', e6'⟩ := hget j _ (List.getElem?_eq_getElem hj)
        rw [e5, e6, e5', e6']
        exact hd i j hij hj'
      · obtain ⟨e0, he0⟩ : ∃ e0, es[0]? = some e0 := ⟨es[0], List.getElem?_eq_getElem h0⟩
        have := (hc 0 e0 he0).c0
        exact ⟨⟨_, by simpa using this⟩, hf⟩

theorem KidItems.eq {w : World} {lo hi N : Nat} {p : Item} {b off cap b' off' cap' : Nat} {ks : List Item} (h : KidItems w lo hi N p b off cap b' off' cap' ks) (hb : bareB p.a p.b = true) : p.a = p.b ↔ ∀ k ∈ ks, k.a = k.b := by
  rw [eq_of_bare hb]
  have hl := ((bareB_iff _ _).1 hb).2.2.2.2
  constructor
  · intro e k hk
    obtain ⟨j, hjk⟩ := List.mem_iff_getElem?.mp hk
    obtain ⟨e1, e2, _, _⟩ := h.at_ j k hjk
    rw [e, e2] at e1
    exact (Option.some.inj e1).symm
  · intro hall
    apply List.ext_getElem?
    intro j
    by_cases hj : j < p.a.kids.length
    · obtain ⟨k, hk⟩ : ∃ k, ks[j]? = some k := ⟨ks[j]'(by rw [h.len]; exact hj), List.getElem?_eq_getElem _⟩
      obtain ⟨e1, e2, _, _⟩ := h.at_ j k hk
      rw [e1, e2, hall k (List.mem_of_getElem? hk)]
    · rw [List.getElem?_eq_none (by omega), List.getElem?_eq_none (by omega)]

theorem sumE_of {es : List ExprD} : ∀ {ks : List Item}, ks.length = es.length → (∀ (j : Nat) (k : Item), ks[j]? = some k → es[j]? = some k.a) → sumE ks = manyL es := by
  induction es with
  | nil => intro ks hl _; obtain rfl := List.eq_nil_of_length_eq_zero hl; rfl
  | cons e es ih =>
    intro ks hl h
    cases ks with
    | nil => simp at hl
    | cons k ks =>
      have h0 := h 0 k rfl
      simp at h0
      rw [sumE, manyL, ← h0, ih (by simpa using hl) fun j k' hk => by have := h (j + 1) k' (by simpa using hk); simpa using this]

theorem KidItems.sum {w : World} {lo hi N : Nat} {p : Item} {b off cap b' off' cap' : Nat} {ks : List Item} (h : KidItems w lo hi N p b off cap b' off' cap' ks) : sumE ks + 1 = manyE p.a := by
  rw [sumE_of h.len fun j k hk => (h.at_ j k hk).1, manyE_eq]
end Go.Proofs.YtkeockippmmneaaGreat

/-
  A region that draws its order, with one call of a reader and one append: what holds as its operations are done one by one.
-/
namespace Go.Proofs.YtkeockippmmneaaGreat
open Go.RowKit
set_option linter.unusedVariables false

theorem wrap_small (n : Int) (h0 : -9223372036854775808 ≤ n) (h1 : n ≤ 9223372036854775807) : IntKind.i64.wrap n = n := by
  simp only [IntKind.wrap, IntKind.bits, IntKind.signed]
  simp
  omega

/-- c: the call's place, p: the append's, sl: the slot that it writes. -/
def KidJ (c p : Nat) (sl : Tmp) (Q1 Q2 K1 : World → Prop) (K2 : Value → World → Prop) (L : Array Bool) (a : Act) (u : World) : Prop :=
  (L.getD c true = false → Q1 u) ∧ (L.getD c true = true → Q2 u) ∧ (L.getD p true = false → K1 u) ∧ (L.getD p true = true → K2 (a.tmps.getD sl undef) u)

theorem KidJ.other {c p : Nat} {sl : Tmp} {Q1 Q2 K1 : World → Prop} {K2 : Value → World → Prop} {L : Array Bool} {a : Act} {u u' : World} (h : KidJ c p sl Q1 Q2 K1 K2 L a u) {i : Nat} {d : Tmp} {v : Value} (hc : i ≠ c) (hp : i ≠ p) (hd : d ≠ sl)
    (s1 : Q1 u → Q1 u') (s2 : Q2 u → Q2 u') (s3 : K1 u → K1 u') (s4 : ∀ v, K2 v u → K2 v u') : KidJ c p sl Q1 Q2 K1 K2 (L.setIfInBounds i true) (a.put (some d) v) u' := by
  obtain ⟨h1, h2, h3, h4⟩ := h
  refine ⟨fun e => s1 (h1 ?_), fun e => s2 (h2 ?_), fun e => s3 (h3 ?_), fun e => ?_⟩
  · rwa [getD_set_ne true hc] at e
  · rwa [getD_set_ne true hc] at e
  · rwa [getD_set_ne true hp] at e
  · rw [getD_put_ne a d sl v hd]
    rw [getD_set_ne true hp] at e
    exact s4 _ (h4 e)

theorem KidJ.call {c p : Nat} {sl : Tmp} {Q1 Q2 K1 : World → Prop} {K2 : Value → World → Prop} {L : Array Bool} {a : Act} {u u' : World} (h : KidJ c p sl Q1 Q2 K1 K2 L a u) {d : Tmp} {v : Value} (hc : c < L.size) (hp : c ≠ p) (hd : d ≠ sl)
    (s2 : Q2 u') (s3 : K1 u → K1 u') (s4 : ∀ v, K2 v u → K2 v u') : KidJ c p sl Q1 Q2 K1 K2 (L.setIfInBounds c true) (a.put (some d) v) u' := by
  obtain ⟨h1, h2, h3, h4⟩ := h
  refine ⟨fun e => ?_, fun e => s2, fun e => s3 (h3 ?_), fun e => ?_⟩
  · rw [getD_set_self' hc] at e; cases e
  · rwa [getD_set_ne true hp] at e
  · rw [getD_put_ne a d sl v hd]
    rw [getD_set_ne true hp] at e
    exact s4 _ (h4 e)

theorem KidJ.app {c p : Nat} {sl : Tmp} {Q1 Q2 K1 : World → Prop} {K2 : Value → World → Prop} {L : Array Bool} {a : Act} {u u' : World} (h : KidJ c p sl Q1 Q2 K1 K2 L a u) {v : Value} (hp : p < L.size) (hc : p ≠ c) (hd : sl < a.tmps.size)
    (s1 : Q1 u → Q1 u') (s2 : Q2 u → Q2 u') (s4 : K2 v u') : KidJ c p sl Q1 Q2 K1 K2 (L.setIfInBounds p true) (a.put (some sl) v) u' := by
  obtain ⟨h1, h2, h3, h4⟩ := h
  refine ⟨fun e => s1 (h1 ?_), fun e => s2 (h2 ?_), fun e => ?_, fun e => ?_⟩
  · rwa [getD_set_ne true hc] at e
  · rwa [getD_set_ne true hc] at e
  · rw [getD_set_self' hp] at e; cases e
  · rw [getD_put_self a sl v hd]; exact s4
end Go.Proofs.YtkeockippmmneaaGreat
