/-
  A list of numbers that is appended to an empty one: the answer owns new memory.
-/
import Derived.Test.YtdhpbiplkjpiiaaGreatDoorQC6
import Derived.Test.YtdhpbiplkjpiiaaGreatDoorDag
import Derived.Deep.RegionLawGrows
import Derived.Deep.Upon
namespace Go.Proofs.YtdhpbiplkjpiiaaGreatDoor
open Go.ChangeShapes Go.WideShapes Go.ChangeAt Go.RowKit
set_option linter.unusedVariables false

/-- What owns a row owns its numbers. -/
theorem oi_of_owns {w : World} {base : Nat} {v : Value} {xs : List Int} (h : w.ownsRow base 3 1 v xs.length (xs.map (Value.int .i64))) : OI w base w.heap.size v xs := by
  rcases h.2 with ⟨hv, hn⟩ | ⟨g, cap, cur, rfl, hb, hh, hc, hm, _⟩
  · exact .inl ⟨List.eq_nil_of_length_eq_zero hn, none, 0, hv, Nat.zero_le _⟩
  · refine .inr ⟨g, 0, cap, rfl, hc, hm, hb, (Array.getElem?_eq_some_iff.mp hh).1, fun i x hx => ?_, fun i => h.frozenAt _⟩
    have hi : i < xs.length := (List.getElem?_eq_some_iff.mp hx).1
    rw [Nat.zero_add, h.cellAt i (by omega), List.getElem?_map, hx]
    rfl

theorem below_grown {w w' : World} (h : w.grownBy w' none) : Below w.heap.size w w' :=
  (Below.refl _ _).grown h (Nat.le_refl _) (fun k h => by cases h)

/-- 'append([]int{}, xs...)', as one step of a region that draws its order. -/
theorem step_copy {ops : Array Oper} {o : Oper} {a : Act} {u : World} {K : Act → World → Prop} {Q : Exit → Act → World → Prop} {E : Prop}
    (hg : o.guard = none) (s x : Operand) (hop : o.op = Op.call { callee := Callee.builtin Builtin.append, args := #[s, x], argTypes := #[22, 22] })
    {y : Option Addr} (hs : a.eval s = .slice y 0 0) {v : Value} (hx : a.eval x = v) {lo hi : Nat} {xs : List Int} (hv : SI u lo hi v xs) (hn : xs.length ≤ 1048576)
    (hK : ∀ v' u', OI u' u.heap.size u'.heap.size v' xs → Below u.heap.size u u' → K (a.put o.dst v') u') :
    if Region.wanted o (yielded ops a.tmps) = true then Oper.wp Tryz.prog o a u K Q else E := by
  obtain ⟨ad, cap, rfl, h1, h2, h3⟩ := hv
  obtain ⟨i0, hi0, hz0, hz1, hz2⟩ := info_parts info_int
  by_cases he : xs = []
  · subst he
    rw [if_pos (by simp [Region.wanted, hg])]
    have hK' := hK (.slice y 0 0) u (.inl ⟨rfl, y, 0, rfl, Nat.zero_le _⟩) (Below.refl _ _)
    have hsrc : Src Tryz.prog i0.size 22 (.slice ad 0 cap) 0 [] u := by
      cases ad with
      | none => exact Src.ofNil _ Tryz.underlying22 cap
      | some x => exact Src.ofSlice _ Tryz.underlying22 x 0 cap [] (by simp) (fun j u h => by simp at h) (fun u h => by simp at h)
    have hrun := run_append_nothing (P := Tryz.prog) u 22 22 o.type 3 i0 Tryz.underlying22 hi0 y 0 0 (Nat.le_refl _) _ hsrc
    unfold Oper.wp
    simp only [List.length_nil] at hx
    simp [execOp, hop, resolve, invoke, builtin, hs, hx, hrun, Result.andThen]
    exact hK'
  · rcases h3 with h0 | ⟨b, off, rfl, _, _, hc⟩
    · exact absurd h0 he
    have hpos : 0 < xs.length := List.length_pos_iff.mpr he
    refine step_append_grows hg s x 22 hop 3 i0 (.int .i64 0) 1 8 Tryz.underlying22 hi0 hz0 hz1 hz2 rfl (by decide) y 0 0 [] hs (fun _ => ⟨rfl, rfl⟩) rfl (fun _ _ j u h => by simp at h) ⟨b, off, none⟩ xs.length cap (xs.map (Value.int .i64)) hx (by simp) ?_ ?_ (by omega) (by unfold maxLen; omega) (by omega) ?_
    · intro j z hz
      rw [List.getElem?_map] at hz
      cases hj : xs[j]? with
      | none => rw [hj] at hz; cases hz
      | some q =>
        rw [hj] at hz
        cases hz
        have := hc j q hj
        unfold Addr.add
        split
        · rename_i h; subst h; simpa using this
        · exact this
    · intro z hz
      obtain ⟨q, _, rfl⟩ := List.mem_map.mp hz
      rfl
    · intro v' u' hown hgrow
      rw [Nat.zero_add, List.nil_append] at hown
      exact hK v' u' (oi_of_owns hown) (below_grown hgrow)
end Go.Proofs.YtdhpbiplkjpiiaaGreatDoor
