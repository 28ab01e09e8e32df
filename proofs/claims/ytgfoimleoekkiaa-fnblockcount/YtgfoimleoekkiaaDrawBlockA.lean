/-
  Draws of blocks: l6Kind, l6Dt; a reader in a region that draws its order. (Written by our generator gen_drawblock.py.)
-/
import Derived.Test.YtgfoimleoekkiaaDrawKit
import Derived.Test.YtgfoimleoekkiaaBlockImplC
namespace Go.Proofs.Ytgfoimleoekkiaa
open Go.ChangeShapes Go.WideShapes Go.ChangeAt Go.RowKit
set_option linter.unusedVariables false
set_option linter.unusedSimpArgs false
set_option maxRecDepth 100000

section
variable {ops : Array Oper} {rest : List Oper} {o : Oper} {a : Act} {Q : Exit → Act → World → Prop} {K : Act → World → Prop} {w : World}
theorem wpList_storeK (hg : o.guard = none) (p v : Operand) (hop : o.op = Op.store 3 p v) {B : Nat} {b : BlockD} {x : Int} (hp : a.eval p = .pointer (some ⟨B, 0, none⟩)) (hv : a.eval v = .int .i64 x) (hz : CellB w B b)
    (hK : Hid (∀ u1, Laid w u1 B { b with kind := x } → wpList Try.prog ops Q rest (a.put o.dst undef) u1)) : wpList Try.prog ops Q (o :: rest) a w :=
  wpList_plain hg fun K hK' => by
    have h := hK' _ _ (hK.out _ (laid_kind hz x))
    have c := hz.c0
    have f := hz.f 0
    unfold Oper.wp
    simp only [execOp, hop, hp, hv, Instr.storeAt, Instr.sureAddr, Sem.run_bind, Sem.run_pure, Result.andThen_ok]
    simp [go_sem, c, f]
    exact h
theorem wpList_storeN (hg : o.guard = none) (p v : Operand) (hop : o.op = Op.store 3 p v) {B : Nat} {b : BlockD} {x : Int} (hp : a.eval p = .pointer (some ⟨B, 1, none⟩)) (hv : a.eval v = .int .i64 x) (hz : CellB w B b)
    (hK : Hid (∀ u1, Laid w u1 B { b with n := x } → wpList Try.prog ops Q rest (a.put o.dst undef) u1)) : wpList Try.prog ops Q (o :: rest) a w :=
  wpList_plain hg fun K hK' => by
    have h := hK' _ _ (hK.out _ (laid_n hz x))
    have c := hz.c1
    have f := hz.f 1
    unfold Oper.wp
    simp only [execOp, hop, hp, hv, Instr.storeAt, Instr.sureAddr, Sem.run_bind, Sem.run_pure, Result.andThen_ok]
    simp [go_sem, c, f]
    exact h
end

/-- A reader, while a region draws: at most one place further for each operation that is done. -/
def RdL (n0 B : Nat) (a : Option Addr) (len cap : Nat) (q : Int) (L : Array Bool) (u : World) : Prop := RdQ n0 B a len cap (q + ((L.size : Int) - (unlisted L : Int))) u

theorem unlisted_le (L : Array Bool) : unlisted L ≤ L.size := by
  unfold unlisted
  rw [← Array.length_toList]
  exact List.countP_le_length

theorem RdL.keep {n0 B : Nat} {a : Option Addr} {len cap : Nat} {q : Int} {L : Array Bool} {u u' : World} {i : Nat} (h : RdL n0 B a len cap q L u) (hL : L.getD i true = false) (hk : Below u.heap.size u u') : RdL n0 B a len cap q (L.setIfInBounds i true) u' := by
  have hs := unlisted_set hL
  unfold RdL at *
  rw [Array.size_setIfInBounds]
  exact (h.kept hk).mono (by omega)
theorem RdL.same {n0 B : Nat} {a : Option Addr} {len cap : Nat} {q : Int} {L : Array Bool} {u : World} {i : Nat} (h : RdL n0 B a len cap q L u) (hL : L.getD i true = false) : RdL n0 B a len cap q (L.setIfInBounds i true) u := h.keep hL (Below.refl _ _)
theorem RdL.read {n0 B : Nat} {a : Option Addr} {len cap : Nat} {q : Int} {L : Array Bool} {u' : World} {i : Nat} (hL : L.getD i true = false) (h : RdQ n0 B a len cap (q + ((L.size : Int) - (unlisted L : Int)) + 1) u') : RdL n0 B a len cap q (L.setIfInBounds i true) u' := by
  have hs := unlisted_set hL
  unfold RdL
  rw [Array.size_setIfInBounds]
  exact h.mono (by omega)
theorem RdL.most {n0 B : Nat} {a : Option Addr} {len cap : Nat} {q : Int} {L : Array Bool} {u : World} (h : RdL n0 B a len cap q L u) : RdQ n0 B a len cap (q + (L.size : Int)) u := RdQ.mono h (by omega)

theorem unlisted_new (n : Nat) : unlisted (Array.replicate n false) = n := by
  unfold unlisted
  rw [Array.toList_replicate, List.countP_replicate]
  rfl
theorem RdL.start {n0 B : Nat} {a : Option Addr} {len cap : Nat} {q : Int} {u : World} (h : RdQ n0 B a len cap q u) (n : Nat) : RdL n0 B a len cap q (Array.replicate n false) u := by
  unfold RdL
  rw [Array.size_replicate, unlisted_new]
  exact h.mono (by omega)

theorem wanted_none {o : Oper} {y : Nat → Option Bool} {p q : Prop} (hg : o.guard = none) (h : p) : if Region.wanted o y = true then p else q := by
  rw [if_pos (by simp [Region.wanted, hg])]; exact h

/-- What is drawn of a list that was written out is one of it. -/
theorem drawn_in (w : World) (zs : List Int) (t : TypeId) (i : Nat) (v : Int) (h : (w.alloc (.cells (zs.map (Value.int .i64)).toArray t)).cell? ⟨w.heap.size, 0 + i, none⟩ = some (.int .i64 v)) : v ∈ zs := by
  rw [Nat.zero_add, World.cell?_alloc_new] at h
  simp only [List.getElem?_toArray, List.getElem?_map, Option.map_eq_some_iff, Value.int.injEq, true_and] at h
  obtain ⟨z, hz, rfl⟩ := h
  exact List.mem_of_getElem? hz

set_option maxHeartbeats 400000 in
theorem l6Dt_any (n0 : Nat) (w : World) (B : Nat) (a : Option Addr) (len cap : Nat) (q : Int) (h : RdQ n0 B a len cap q w) (hq : q < 1000000) :
    Calls Try.prog 33 #[.pointer (some ⟨B, 0, none⟩)] w fun e w' => ∃ v, e = .returned (.int .i64 v) ∧ 0 ≤ v ∧ v ≤ 1000 ∧ RdQ n0 B a len cap (q + 1) w' ∧ Aside B w w' := by
  have hB := h.hi
  go_enter Try.func33, Try.ntmps33
  go_wp2_with fail
  refine (numQ n0 _ B a len cap q w.heap.size 0 7 7 (h.kept ((Below.refl _ _).alloc (Nat.le_refl _) _)) (by omega) (by omega) (by omega) (by omega) (by exact ints_new _ _ _ _ rfl rfl)).mono ?_
  rintro e u1 ⟨v, i, rfl, hi, hv, R1, A1⟩
  have hm := drawn_in w [1, 1, 2, 3, 0, 10, 1000] _ i v hv
  simp at hm
  have HA : Hid (Aside B w u1) := (aside_alloc _ _ _).trans A1
  clear hv A1
  go_wp2
  go_ret
  exact ⟨v, rfl, by omega, by omega, R1, HA.out⟩

set_option maxHeartbeats 1000000 in
theorem l6Kind_any (n0 : Nat) (w : World) (B : Nat) (a : Option Addr) (len cap : Nat) (q : Int) (h : RdQ n0 B a len cap q w) (hq : q + 1 < 1000000) :
    Calls Try.prog 32 #[.pointer (some ⟨B, 0, none⟩)] w fun e w' => ∃ k n, e = .returned (.tuple #[.int .i64 k, .int .i64 n]) ∧ numB k n = true ∧ 0 ≤ n ∧ n ≤ 1000 ∧ RdQ n0 B a len cap (q + 2) w' ∧ Aside B w w' := by
  have hB := h.hi
  go_enter Try.func32, Try.ntmps32
  go_wp2_with fail
  refine (pickQ n0 _ B a len cap q 5 h (by omega) (by omega) (by omega)).mono ?_
  rintro e u1 ⟨r, rfl, hr0, hr1, R1, A1⟩
  have hs1 := A1.size
  by_cases h3 : 3 < 1 + r
  · have hn : numB (1 + r) 0 = true := by rw [numB_last (by omega)]; rfl
    have HR : Hid (RdQ n0 B a len cap (q + 2) u1) := R1.mono (by omega)
    clear R1
    go_wp2
    go_ret2
    exact ⟨_, _, rfl, hn, by omega, by omega, HR.out, A1⟩
  · go_wp2_with fail
    refine (numQ n0 _ B a len cap (q + 1) u1.heap.size 0 6 6 (R1.kept ((Below.refl _ _).alloc (Nat.le_refl _) _)) (by omega) (by omega) (by omega) (by omega) (by exact ints_new _ _ _ _ rfl rfl)).mono ?_
    rintro e u2 ⟨v, i, rfl, hi, hv, R2, A2⟩
    have hm := drawn_in u1 [0, 1, 2, 3, 5, 1000] _ i v hv
    simp at hm
    have hn : numB (1 + r) v = true := by rw [numB_kinds (by omega)]; simp; omega
    have HA : Hid (Aside B w u2) := (A1.trans (aside_alloc _ _ _)).trans A2
    have HR : Hid (RdQ n0 B a len cap (q + 2) u2) := R2.mono (by omega)
    clear hv A1 A2 R1 R2
    go_wp2
    go_ret2
    exact ⟨_, _, rfl, hn, by omega, by omega, HR.out, HA.out⟩
end Go.Proofs.Ytgfoimleoekkiaa
