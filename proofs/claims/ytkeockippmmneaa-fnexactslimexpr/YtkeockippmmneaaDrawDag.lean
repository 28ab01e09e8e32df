/-
  A region that draws its order, with one call of a reader and one append: what holds as its operations are done one by one.
-/
import Derived.Test.YtkeockippmmneaaDag
namespace Go.Proofs.Ytkeockippmmneaa
open Go.RowKit
set_option linter.unusedVariables false

theorem wrap_small (n : Int) (h0 : -9223372036854775808 ≤ n) (h1 : n ≤ 9223372036854775807) : IntKind.i64.wrap n = n := by
  simp only [IntKind.wrap, IntKind.bits, IntKind.signed]
  simp
  omega

/-- c: the call's place, p: the append's, sl: the slot that it writes. -/
def KidJ (c p : Nat) (sl : Tmp) (Q1 Q2 K1 : World → Prop) (K2 : Value → World → Prop) (L : Array Bool) (a : Act) (u : World) : Prop :=
  (L.getD c true = false → Q1 u) ∧ (L.getD c true = true → Q2 u) ∧ (L.getD p true = false → K1 u) ∧ (L.getD p true = true → K2 (a.tmps.getD sl undef) u)

theorem KidJ.other {c p : Nat} {sl : Tmp} {Q1 Q2 K1 : World → Prop} {K2 : Value → World → Prop} {L : Array Bool} {a : Act} {u u' : World} (h : KidJ c p sl Q1 Q2 K1 K2 L a u) {i : Nat} {d : Tmp} {v : Value} (hc : i ≠ c) (hp : i ≠ p) (hd : d ≠ sl)
    (s1 : Q1 u → Q1 u') (s2 : Q2 u → Q2 u') (s3 : K1 u → K1 u') (s4 : ∀ v, K2 v u → K2 v u') : KidJ c p sl Q1 Q2 K1 K2 (L.setIfInBounds i true) (a.put (some d) v) u' := by
  obtain ⟨h1, h2, h3, h4⟩ := h
  refine ⟨fun e => s1 (h1 ?_), fun e => s2 (h2 ?_), fun e => s3 (h3 ?_), fun e => ?_⟩
  · rwa [getD_set_ne true hc] at e
  · rwa [getD_set_ne true hc] at e
  · rwa [getD_set_ne true hp] at e
  · rw [getD_put_ne a d sl v hd]
    rw [getD_set_ne true hp] at e
    exact s4 _ (h4 e)

theorem KidJ.call {c p : Nat} {sl : Tmp} {Q1 Q2 K1 : World → Prop} {K2 : Value → World → Prop} {L : Array Bool} {a : Act} {u u' : World} (h : KidJ c p sl Q1 Q2 K1 K2 L a u) {d : Tmp} {v : Value} (hc : c < L.size) (hp : c ≠ p) (hd : d ≠ sl)
    (s2 : Q2 u') (s3 : K1 u → K1 u') (s4 : ∀ v, K2 v u → K2 v u') : KidJ c p sl Q1 Q2 K1 K2 (L.setIfInBounds c true) (a.put (some d) v) u' := by
  obtain ⟨h1, h2, h3, h4⟩ := h
  refine ⟨fun e => ?_, fun e => s2, fun e => s3 (h3 ?_), fun e => ?_⟩
  · rw [getD_set_self' hc] at e; cases e
  · rwa [getD_set_ne true hp] at e
  · rw [getD_put_ne a d sl v hd]
    rw [getD_set_ne true hp] at e
    exact s4 _ (h4 e)

theorem KidJ.app {c p : Nat} {sl : Tmp} {Q1 Q2 K1 : World → Prop} {K2 : Value → World → Prop} {L : Array Bool} {a : Act} {u u' : World} (h : KidJ c p sl Q1 Q2 K1 K2 L a u) {v : Value} (hp : p < L.size) (hc : p ≠ c) (hd : sl < a.tmps.size)
    (s1 : Q1 u → Q1 u') (s2 : Q2 u → Q2 u') (s4 : K2 v u') : KidJ c p sl Q1 Q2 K1 K2 (L.setIfInBounds p true) (a.put (some sl) v) u' := by
  obtain ⟨h1, h2, h3, h4⟩ := h
  refine ⟨fun e => s1 (h1 ?_), fun e => s2 (h2 ?_), fun e => ?_, fun e => ?_⟩
  · rwa [getD_set_ne true hc] at e
  · rwa [getD_set_ne true hc] at e
  · rw [getD_set_self' hp] at e; cases e
  · rw [getD_put_self a sl v hd]; exact s4
end Go.Proofs.Ytkeockippmmneaa
