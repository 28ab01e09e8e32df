/-
  What chapter 1's draws (package spec) answer over any bytes: some number, two numbers or a truth value; nothing that was there is written.
-/
import Derived.Test.YtankdjmgkphiiaaDraw
namespace Go.Proofs.Ytankdjmgkphiiaa
open Go.ChangeShapes Go.WideShapes Go.ChangeAt Go.RowKit
set_option linter.unusedVariables false

theorem bytes_of_row {w : World} {a : Option Addr} {len cap : Nat} {zs : List Int}
    (h : (a = none ∧ len = 0 ∧ cap = 0 ∧ zs = []) ∨
      ∃ x, a = some x ∧ len ≤ cap ∧ cap ≤ maxLen ∧ zs.length = cap ∧ (∀ i, i < zs.length → w.cell? (x.add i) = some (.int .u8 (zs.getD i 0))) ∧ ∀ n ∈ zs, (Lit.int .u8 n).wf = true) :
    Bytes8 w w.heap.size a len ∧ len ≤ cap ∧ cap ≤ maxLen := by
  rcases h with ⟨_, rfl, rfl, _⟩ | ⟨⟨b, off, spot⟩, rfl, hl, hm, hz, hc, hw⟩
  · exact ⟨.inl rfl, Nat.le_refl _, by unfold maxLen; omega⟩
  · refine ⟨?_, hl, hm⟩
    by_cases h0 : len = 0
    · exact .inl h0
    · have h1 := hc 0 (by omega)
      have hs : spot = none := by simpa [Addr.add] using World.cell?_spot h1
      subst hs
      have hb : b < w.heap.size := by simpa [Addr.add] using World.block_lt_of_cell? w _ h1
      refine .inr ⟨b, off, rfl, hb, fun i hi => ⟨zs.getD i 0, by rw [← hc i (by omega)]; congr 1; unfold Addr.add; split <;> simp_all, ?_⟩⟩
      have hi' : i < zs.length := by omega
      have hg : zs.getD i 0 = zs[i] := by simp [List.getD, hi']
      rw [hg]
      exact bounds_u8 (hw _ (List.getElem_mem hi'))

theorem Bytes8.kept {w w1 : World} {a : Option Addr} {len : Nat} (h : Bytes8 w w.heap.size a len) (hb : Below w.heap.size w w1) : Bytes8 w1 w1.heap.size a len := by
  have hs := hb.size
  rcases h with h0 | ⟨b, off, ha, hb', hc⟩
  · exact .inl h0
  · refine .inr ⟨b, off, ha, by omega, fun i hi => ?_⟩
    rw [hb.cell (p := ⟨b, off + i, none⟩) hb']
    exact hc i hi

theorem below_two {w w1 w2 : World} (h1 : Below w.heap.size w w1) (h2 : Below w1.heap.size w1 w2) : Below w.heap.size w w2 :=
  h1.trans (h2.mono h1.size)

theorem drawIs_any (w : World) (a : Option Addr) (len cap : Nat) (hb : Bytes8 w w.heap.size a len) (hlc : len ≤ cap) (hm : cap ≤ maxLen) :
    Calls Try.prog 23 #[.slice a len cap] w fun e w' => ∃ b, e = .returned (.bool b) ∧ Below w.heap.size w w' := by
  go_enter Try.func23, Try.ntmps23
  go_wp2_with fail
  refine (open_any w a len cap hb hlc hm).mono ?_
  rintro e w1 ⟨len', rfl, hr, hb1⟩
  go_wp2_with fail
  refine (pick_rd w.heap.size w1 w.heap.size a len' cap 0 2 hr (by omega) (by omega) (by omega)).mono ?_
  rintro e w2 ⟨x, rfl, _, _, hr2, hb2⟩
  go_wp2
  go_ret
  exact ⟨_, rfl, hb1.trans hb2⟩

theorem drawCut_any (w : World) (a : Option Addr) (len cap : Nat) (hb : Bytes8 w w.heap.size a len) (hlc : len ≤ cap) (hm : cap ≤ maxLen) :
    Calls Try.prog 14 #[.slice a len cap] w fun e w' => ∃ n, e = .returned (.int .i64 n) ∧ Below w.heap.size w w' := by
  go_enter Try.func14, Try.ntmps14
  go_wp2_with fail
  refine (open_any w a len cap hb hlc hm).mono ?_
  rintro e w1 ⟨len', rfl, hr, hb1⟩
  go_wp2_with fail
  refine (l1Num_any w.heap.size w1 w.heap.size a len' cap 0 hr (by omega)).mono ?_
  rintro e w2 ⟨x, rfl, hr2, hb2⟩
  go_wp2
  go_ret
  exact ⟨_, rfl, hb1.trans hb2⟩

theorem drawOn_any (w : World) (a : Option Addr) (len cap : Nat) (hb : Bytes8 w w.heap.size a len) (hlc : len ≤ cap) (hm : cap ≤ maxLen) :
    Calls Try.prog 24 #[.slice a len cap] w fun e w' => ∃ n, e = .returned (.int .i64 n) ∧ Below w.heap.size w w' := by
  go_enter Try.func24, Try.ntmps24
  go_wp2_with fail
  refine (open_any w a len cap hb hlc hm).mono ?_
  rintro e w1 ⟨len', rfl, hr, hb1⟩
  go_wp2_with fail
  refine (l1Num_any w.heap.size w1 w.heap.size a len' cap 0 hr (by omega)).mono ?_
  rintro e w2 ⟨x, rfl, hr2, hb2⟩
  go_wp2
  go_ret
  exact ⟨_, rfl, hb1.trans hb2⟩

theorem drawAdd_any (w : World) (a : Option Addr) (len cap : Nat) (hb : Bytes8 w w.heap.size a len) (hlc : len ≤ cap) (hm : cap ≤ maxLen) :
    Calls Try.prog 13 #[.slice a len cap] w fun e w' => ∃ x y, e = .returned (.tuple #[.int .i64 x, .int .i64 y]) ∧ Below w.heap.size w w' := by
  go_enter Try.func13, Try.ntmps13
  go_wp2_with fail
  refine (l1Two_any w a len cap hb hlc hm).mono ?_
  rintro e w1 ⟨x, y, rfl, hb1⟩
  go_wp2
  go_ret2
  exact ⟨x, y, rfl, hb1⟩

theorem drawSub_any (w : World) (a : Option Addr) (len cap : Nat) (hb : Bytes8 w w.heap.size a len) (hlc : len ≤ cap) (hm : cap ≤ maxLen) :
    Calls Try.prog 29 #[.slice a len cap] w fun e w' => ∃ x y, e = .returned (.tuple #[.int .i64 x, .int .i64 y]) ∧ Below w.heap.size w w' := by
  go_enter Try.func29, Try.ntmps29
  go_wp2_with fail
  refine (l1Two_any w a len cap hb hlc hm).mono ?_
  rintro e w1 ⟨x, y, rfl, hb1⟩
  go_wp2
  go_ret2
  exact ⟨x, y, rfl, hb1⟩

theorem drawMul_any (w : World) (a : Option Addr) (len cap : Nat) (hb : Bytes8 w w.heap.size a len) (hlc : len ≤ cap) (hm : cap ≤ maxLen) :
    Calls Try.prog 30 #[.slice a len cap] w fun e w' => ∃ x y, e = .returned (.tuple #[.int .i64 x, .int .i64 y]) ∧ Below w.heap.size w w' := by
  go_enter Try.func30, Try.ntmps30
  go_wp2_with fail
  refine (l1Two_any w a len cap hb hlc hm).mono ?_
  rintro e w1 ⟨x, y, rfl, hb1⟩
  go_wp2
  go_ret2
  exact ⟨x, y, rfl, hb1⟩
end Go.Proofs.Ytankdjmgkphiiaa
