import Derived.Test.YtaoiookfmgpmkaaGreatDoorQM15
import Derived.Test.YtaoiookfmgpmkaaGreatDoorQM1

/-
 How many inputs of a wire wait for one, and for all that have not been told: the program's counts, and that they tell the same order.
-/
namespace Go.Proofs.YtaoiookfmgpmkaaGreatDoor
open Go.RowKit
set_option linter.unusedVariables false

def cntSrc (s : SrcD) (j : Nat) : Int := if s.kind = 2 ∧ s.at_ = (j : Int) then 1 else 0
def cntW (x : WireD) (j : Nat) : Int := cntSrc x.a j + cntSrc x.b j
def partS (s : SrcD) (k : Nat) : Int := if s.kind = 2 ∧ 0 ≤ s.at_ ∧ s.at_ < (k : Int) then 1 else 0
def partW (x : WireD) (k : Nat) : Int := partS x.a k + partS x.b k
def leftS (s : SrcD) (ord : List Nat) : Int := if waitsS s ord then 1 else 0
def leftW (x : WireD) (ord : List Nat) : Int := leftS x.a ord + leftS x.b ord

theorem cntS_bd (s : SrcD) (j : Nat) : 0 ≤ cntSrc s j ∧ cntSrc s j ≤ 1 := by unfold cntSrc; split <;> omega
theorem partS_bd (s : SrcD) (j : Nat) : 0 ≤ partS s j ∧ partS s j ≤ 1 := by unfold partS; split <;> omega
theorem leftS_bd (s : SrcD) (ord : List Nat) : 0 ≤ leftS s ord ∧ leftS s ord ≤ 1 := by unfold leftS; split <;> omega
theorem cntW_bd (x : WireD) (j : Nat) : 0 ≤ cntW x j ∧ cntW x j ≤ 2 := by have := cntS_bd x.a j; have := cntS_bd x.b j; unfold cntW; omega
theorem partW_bd (x : WireD) (j : Nat) : 0 ≤ partW x j ∧ partW x j ≤ 2 := by have := partS_bd x.a j; have := partS_bd x.b j; unfold partW; omega
theorem leftW_bd (x : WireD) (ord : List Nat) : 0 ≤ leftW x ord ∧ leftW x ord ≤ 2 := by have := leftS_bd x.a ord; have := leftS_bd x.b ord; unfold leftW; omega

theorem partS_zero (s : SrcD) : partS s 0 = 0 := by unfold partS; rw [if_neg (by omega)]
theorem partS_succ (s : SrcD) (k : Nat) : partS s (k + 1) = partS s k + cntSrc s k := by
 unfold partS cntSrc
 by_cases h1 : s.kind = 2
 ·by_cases h2 : 0 ≤ s.at_ ∧ s.at_ < (k : Int)
  ·rw [if_pos ⟨h1, by omega⟩, if_pos ⟨h1, h2⟩, if_neg (by omega)]; rfl
  ·by_cases h3 : s.at_ = (k : Int)
   ·rw [if_pos ⟨h1, by omega⟩, if_neg (by omega), if_pos ⟨h1, h3⟩]; rfl
   ·rw [if_neg (by omega), if_neg (by omega), if_neg (by omega)]; rfl
 ·rw [if_neg (by omega), if_neg (by omega), if_neg (by omega)]; rfl
theorem partW_zero (x : WireD) : partW x 0 = 0 := by unfold partW; rw [partS_zero, partS_zero]; rfl
theorem partW_succ (x : WireD) (k : Nat) : partW x (k + 1) = partW x k + cntW x k := by unfold partW cntW; rw [partS_succ, partS_succ]; omega
theorem partS_all {s : SrcD} {n : Nat} (h : s.kind = 2 → 0 ≤ s.at_ ∧ s.at_ < n) : partS s n = leftS s [] := by
 unfold partS leftS waitsS
 by_cases h1 : s.kind = 2
 ·have e : (s.kind == 2) = true := by simpa using h1
  rw [if_pos ⟨h1, h h1⟩, e, if_pos (by simp)]
 ·have e : (s.kind == 2) = false := by simpa using h1
  rw [if_neg (by omega), e, if_neg (by simp)]
theorem partW_all {x : WireD} {n : Nat} (h : (x.a.kind = 2 → 0 ≤ x.a.at_ ∧ x.a.at_ < n) ∧ (x.b.kind = 2 → 0 ≤ x.b.at_ ∧ x.b.at_ < n)) : partW x n = leftW x [] := by
 unfold partW leftW; rw [partS_all h.1, partS_all h.2]

theorem leftS_next {s : SrcD} {n k : Nat} {ord : List Nat} (h : s.kind = 2 → 0 ≤ s.at_ ∧ s.at_ < n) (hk : k ∉ ord) : leftS s (ord ++ [k]) = leftS s ord - cntSrc s k := by
 unfold leftS cntSrc waitsS
 by_cases h1 : s.kind = 2
 ·have e : (s.kind == 2) = true := by simpa using h1
  have h2 := h h1
  simp only [e, Bool.true_and]
  by_cases h3 : s.at_ = (k : Int)
  ·have h4 : s.kind = 2 ∧ s.at_ = (k : Int) := ⟨h1, h3⟩
   have h5 : s.at_.toNat = k := by omega
   have c1 : ord.contains k = false := by simpa using hk
   have c2 : (ord ++ [k]).contains k = true := by simp
   rw [if_pos h4, h5, c1, c2]; rfl
  ·have h4 : ¬ (s.kind = 2 ∧ s.at_ = (k : Int)) := fun h => h3 h.2
   have : s.at_.toNat ≠ k := by omega
   have c : (ord ++ [k]).contains s.at_.toNat = ord.contains s.at_.toNat := by simp; omega
   rw [if_neg h4, c]; omega
 ·have e : (s.kind == 2) = false := by simpa using h1
  have h4 : ¬ (s.kind = 2 ∧ s.at_ = (k : Int)) := fun h => h1 h.1
  simp only [e, Bool.false_and]
  rw [if_neg h4]; rfl
theorem leftW_next {x : WireD} {n k : Nat} {ord : List Nat} (h : (x.a.kind = 2 → 0 ≤ x.a.at_ ∧ x.a.at_ < n) ∧ (x.b.kind = 2 → 0 ≤ x.b.at_ ∧ x.b.at_ < n)) (hk : k ∉ ord) : leftW x (ord ++ [k]) = leftW x ord - cntW x k := by
 unfold leftW cntW; rw [leftS_next h.1 hk, leftS_next h.2 hk]; omega
theorem leftW_zero (x : WireD) (ord : List Nat) : leftW x ord = 0 ↔ waitsW x ord = false := by
 unfold leftW leftS waitsW
 cases waitsS x.a ord <;> cases waitsS x.b ord <;> simp

def waitZ (ws : List WireD) (ord : List Nat) (i : Nat) : Int := if ord.contains i then -1 else match ws[i]? with | some x => leftW x ord | none => 0

theorem waitZ_zero {ws : List WireD} {ord : List Nat} {i : Nat} {x : WireD} (hx : ws[i]? = some x) : waitZ ws ord i = 0 ↔ canW ws ord i = true := by
 unfold waitZ canW
 rw [hx]
 cases ord.contains i
 ·simp [leftW_zero]
 ·simp

def ToldW (ws : List WireD) (ord : List Nat) : Prop := ∀ (i : Nat) (x : WireD), i ∈ ord → ws[i]? = some x → waitsW x ord = false

theorem waitsS_more {s : SrcD} {ord : List Nat} {k : Nat} (h : waitsS s ord = false) : waitsS s (ord ++ [k]) = false := by
 unfold waitsS at *
 cases e : (s.kind == 2)
 ·rfl
 ·rw [e, Bool.true_and] at h
  have : ord.contains s.at_.toNat = true := by simpa using h
  have c : (ord ++ [k]).contains s.at_.toNat = true := by simp at this ⊢; exact .inl this
  rw [c]; rfl
theorem waitsW_more {x : WireD} {ord : List Nat} {k : Nat} (h : waitsW x ord = false) : waitsW x (ord ++ [k]) = false := by
 unfold waitsW at *
 simp only [Bool.or_eq_false_iff] at h ⊢
 exact ⟨waitsS_more h.1, waitsS_more h.2⟩
theorem ToldW.next {ws : List WireD} {ord : List Nat} {k : Nat} (h : ToldW ws ord) (hc : canW ws ord k = true) : ToldW ws (ord ++ [k]) := by
 intro i x hi hx
 refine waitsW_more ?_
 rcases List.mem_append.mp hi with hi | hi
 ·exact h i x hi hx
 ·simp at hi
  subst hi
  unfold canW at hc
  rw [hx] at hc
  simp only [Bool.and_eq_true, Bool.not_eq_true'] at hc
  exact hc.2

theorem cntW_told {x : WireD} {ord : List Nat} {k : Nat} (h : waitsW x ord = false) (hk : k ∉ ord) : cntW x k = 0 := by
 have one : ∀ s : SrcD, waitsS s ord = false → cntSrc s k = 0 := by
  intro s hs
  unfold cntSrc
  by_cases h1 : s.kind = 2 ∧ s.at_ = (k : Int)
  ·exfalso
   unfold waitsS at hs
   have e : (s.kind == 2) = true := by simpa using h1.1
   rw [e, Bool.true_and, h1.2, Int.toNat_natCast] at hs
   have : ord.contains k = true := by simpa using hs
   exact hk (by simpa using this)
  ·rw [if_neg h1]
 unfold waitsW at h
 simp only [Bool.or_eq_false_iff] at h
 unfold cntW
 rw [one _ h.1, one _ h.2]; rfl

theorem waitZ_next {ws : List WireD} {ord : List Nat} {k i : Nat} {x : WireD} (hT : ToldW ws ord) (hc : canW ws ord k = true) (hx : ws[i]? = some x) (hok : (x.a.kind = 2 → 0 ≤ x.a.at_ ∧ x.a.at_ < ws.length) ∧ (x.b.kind = 2 → 0 ≤ x.b.at_ ∧ x.b.at_ < ws.length)) :
  waitZ ws (ord ++ [k]) i = (if i = k then -1 else waitZ ws ord i) - cntW x k := by
 have hk := canW_not hc
 unfold waitZ
 by_cases e : i = k
 ·subst e
  have c : (ord ++ [i]).contains i = true := by simp
  rw [if_pos rfl, c, if_pos rfl]
  unfold canW at hc
  rw [hx] at hc
  simp only [Bool.and_eq_true, Bool.not_eq_true'] at hc
  rw [cntW_told hc.2 hk]; rfl
 ·rw [if_neg e, hx]
  have c : (ord ++ [k]).contains i = ord.contains i := by simp; omega
  rw [c]
  cases hm : ord.contains i
  ·rw [if_neg (by simp), if_neg (by simp)]
   exact leftW_next hok hk
  ·rw [if_pos rfl, if_pos rfl]
   have := hT i x (by simpa using hm) hx
   rw [cntW_told this hk]; rfl
end Go.Proofs.YtaoiookfmgpmkaaGreatDoor

/-
 The program's inputs, behind an interface: inputOf, waits, waitsFor; slices.Index. (Written by our generator gen_netimpla.py.)
-/
namespace Go.Proofs.YtaoiookfmgpmkaaGreatDoor
open Go.ChangeShapes Go.WideShapes Go.ChangeAt Go.RowKit
set_option linter.unusedVariables false
set_option linter.unusedSimpArgs false
set_option maxRecDepth 100000

theorem below_aN {w u : World} (h : Below w.heap.size w u) (o : Obj) : Below w.heap.size w (u.alloc o) := h.alloc h.size o

def inputV (s : SrcD) : Value := if s.kind = 1 then .iface 371 (.agg (srcC s).toArray) else if s.kind = 2 then .iface 374 (.agg (srcC s).toArray) else if s.kind = 3 then .iface 375 (.agg (srcC s).toArray) else .nilIface

set_option maxHeartbeats 2000000 in
theorem inputOf_any (w : World) (s : SrcD) : Calls Tryz.prog 238 #[.agg (srcC s).toArray] w fun e w' => e = .returned (inputV s) ∧ Below w.heap.size w w' := by
 obtain ⟨k, t, ak, aat, no⟩ := s
 unfold inputV srcC
 simp only
 by_cases h1 : k = 1
 ·subst h1
  rw [if_pos rfl]
  go_enter Tryz.func238, Tryz.ntmps238
  go_wp2
  go_ret
  exact ⟨rfl, below_aN (Below.refl _ _) _⟩
 rw [if_neg h1]
 have n1 : (k == 1) = false := by simpa using h1
 clear h1
 by_cases h2 : k = 2
 ·subst h2
  rw [if_pos rfl]
  go_enter Tryz.func238, Tryz.ntmps238
  go_wp2
  go_ret
  exact ⟨rfl, below_aN (Below.refl _ _) _⟩
 rw [if_neg h2]
 have n2 : (k == 2) = false := by simpa using h2
 clear h2
 by_cases h3 : k = 3
 ·subst h3
  rw [if_pos rfl]
  go_enter Tryz.func238, Tryz.ntmps238
  go_wp2
  go_ret
  exact ⟨rfl, below_aN (Below.refl _ _) _⟩
 rw [if_neg h3]
 have n3 : (k == 3) = false := by simpa using h3
 clear h3
 go_enter Tryz.func238, Tryz.ntmps238
 go_wp2
 go_ret
 exact ⟨rfl, below_aN (Below.refl _ _) _⟩

set_option maxHeartbeats 1000000 in
theorem waits_addrInput (w : World) (k t ak aat : Int) (no : Bool) (j : Nat) : Calls Tryz.prog 350 #[.agg #[.int .i64 k, .int .i64 t, .int .i64 ak, .int .i64 aat, .bool no], .int .i64 j] w fun e w' => e = .returned (.bool false) ∧ Below w.heap.size w w' := by
 go_enter Tryz.func350, Tryz.ntmps350
 go_wp2
 go_ret
 exact ⟨rfl, below_aN (Below.refl _ _) _⟩

set_option maxHeartbeats 1000000 in
theorem waits_lastInput (w : World) (k t ak aat : Int) (no : Bool) (j : Nat) : Calls Tryz.prog 357 #[.agg #[.int .i64 k, .int .i64 t, .int .i64 ak, .int .i64 aat, .bool no], .int .i64 j] w fun e w' => e = .returned (.bool false) ∧ Below w.heap.size w w' := by
 go_enter Tryz.func357, Tryz.ntmps357
 go_wp2
 go_ret
 exact ⟨rfl, below_aN (Below.refl _ _) _⟩

set_option maxHeartbeats 1000000 in
theorem waits_wireInput (w : World) (k t ak aat : Int) (no : Bool) (j : Nat) : Calls Tryz.prog 354 #[.agg #[.int .i64 k, .int .i64 t, .int .i64 ak, .int .i64 aat, .bool no], .int .i64 j] w fun e w' => e = .returned (.bool (t == (j : Int))) ∧ Below w.heap.size w w' := by
 go_enter Tryz.func354, Tryz.ntmps354
 go_wp2
 go_ret
 exact ⟨rfl, below_aN (Below.refl _ _) _⟩

theorem cntS_two {t ak aat : Int} {no : Bool} (j : Nat) : cntSrc ⟨2, t, ak, aat, no⟩ j = if (t == (j : Int)) then 1 else 0 := by
 unfold cntSrc
 by_cases h : t = (j : Int)
 ·rw [if_pos ⟨rfl, h⟩, if_pos (by simpa using h)]
 ·rw [if_neg (fun hh => h hh.2), if_neg (by simpa using h)]
theorem cntS_not {s : SrcD} (h : s.kind ≠ 2) (j : Nat) : cntSrc s j = 0 := by unfold cntSrc; rw [if_neg (fun hh => h hh.1)]

set_option maxHeartbeats 8000000 in
theorem waitsFor_any (w : World) (x : WireD) (j : Nat) : Calls Tryz.prog 187 #[.agg (wireC x).toArray, .int .i64 j] w fun e w' => e = .returned (.int .i64 (cntW x j)) ∧ Below w.heap.size w w' := by
 have hbd := cntS_bd x.a j
 obtain ⟨ca, hca⟩ : ∃ ca, cntSrc x.a j = ca := ⟨_, rfl⟩
 obtain ⟨cb, hcb⟩ : ∃ cb, cntSrc x.b j = cb := ⟨_, rfl⟩
 have hW : cntW x j = ca + cb := by unfold cntW; rw [hca, hcb]
 rw [hW]
 rw [hca] at hbd
 clear hW
 obtain ⟨k, n, ⟨ka, ta, aka, aata, na⟩, ⟨kb, tb, akb, aatb, nb⟩⟩ := x
 simp only at hca hcb
 have HA : Hid (cntSrc ⟨ka, ta, aka, aata, na⟩ j = ca) := hca
 have HB : Hid (cntSrc ⟨kb, tb, akb, aatb, nb⟩ j = cb) := hcb
 clear hca hcb
 unfold wireC
 simp only
 go_enter Tryz.func187, Tryz.ntmps187
 go_wp2_with fail
 obtain ⟨w0, hw0⟩ : ∃ w0, w.alloc (.cells #[.int .i64 k, .int .i64 n, .int .i64 ka, .int .i64 ta, .int .i64 aka, .int .i64 aata, .bool na, .int .i64 kb, .int .i64 tb, .int .i64 akb, .int .i64 aatb, .bool nb] 171) = w0 := ⟨_, rfl⟩
 have G0 : Below w.heap.size w w0 := by rw [← hw0]; exact below_aN (Below.refl _ _) _
 rw [hw0]
 clear hw0
 go_loopw [5, 14] (fun m i wr => ∃ q : Nat, q ≤ 2 ∧ i = .int .i64 q ∧ m = .int .i64 (if q = 0 then 0 else if q = 1 then ca else ca + cb) ∧ Below w.heap.size w wr) (fun _ i _ => 2 - (intOf i).toNat)
 case atStart => exact ⟨0, Nat.zero_le _, rfl, rfl, G0⟩
 case round =>
  obtain ⟨q, hq, rfl, rfl, hb⟩ := hrel
  have hsz := hb.size
  obtain rfl | rfl | rfl : q = 0 ∨ q = 1 ∨ q = 2 := by omega
  rotate_right
  ·simp only [show ¬ (2 : Nat) = 0 by decide, show ¬ (2 : Nat) = 1 by decide, if_false]
   go_wp2
   go_ret
   exact ⟨rfl, hb⟩
  ·rw [if_pos rfl]
   by_cases h1 : ka = 1
   ·subst h1
    obtain rfl : ca = 0 := by rw [← HA.out]; exact cntS_not (show (1 : Int) ≠ 2 by decide) j
    have hX : ∀ w : World, (Instr.index 312 (.agg #[.int .i64 1, .int .i64 ta, .int .i64 aka, .int .i64 aata, .bool na, .int .i64 kb, .int .i64 tb, .int .i64 akb, .int .i64 aatb, .bool nb]) (.int .i64 0)).run Tryz.prog w = .ok (.agg #[.int .i64 1, .int .i64 ta, .int .i64 aka, .int .i64 aata, .bool na]) w := fun _ => by kernel_rfl
    have hI := fun u => inputOf_any u ⟨1, ta, aka, aata, na⟩
    have eI : inputV ⟨1, ta, aka, aata, na⟩ = .iface 371 (.agg #[.int .i64 1, .int .i64 ta, .int .i64 aka, .int .i64 aata, .bool na]) := rfl
    rw [eI] at hI
    clear eI
    have mW : ∀ w : World, (method 547 371 (.agg #[.int .i64 1, .int .i64 ta, .int .i64 aka, .int .i64 aata, .bool na]) "loop.example/stopgate/impl.waits").run Tryz.prog w = .ok (350, .agg #[.int .i64 1, .int .i64 ta, .int .i64 aka, .int .i64 aata, .bool na]) w := fun _ => by kernel_rfl
    go_wp2_with fail
    refine (hI _).mono ?_
    clear hI
    rintro e1 u1 ⟨rfl, g1⟩
    have hb1 : Below w.heap.size w u1 := (below_aN hb _).trans (g1.mono (by simp <;> omega))
    clear g1 hb hsz
    go_wp2_with fail
    refine (waits_addrInput _ 1 ta aka aata na j).mono ?_
    rintro e2 u2 ⟨rfl, g2⟩
    have hb2 : Below w.heap.size w u2 := hb1.trans (g2.mono (by have := hb1.size; omega))
    clear g2 hb1
    go_wp2
    go_roundw
    case rel => exact ⟨1, by omega, by first | rfl | go_num | simp, by simp, hb2⟩
    case measure => simp [intOf] <;> omega
   by_cases h3 : ka = 3
   ·subst h3
    obtain rfl : ca = 0 := by rw [← HA.out]; exact cntS_not (show (3 : Int) ≠ 2 by decide) j
    have hX : ∀ w : World, (Instr.index 312 (.agg #[.int .i64 3, .int .i64 ta, .int .i64 aka, .int .i64 aata, .bool na, .int .i64 kb, .int .i64 tb, .int .i64 akb, .int .i64 aatb, .bool nb]) (.int .i64 0)).run Tryz.prog w = .ok (.agg #[.int .i64 3, .int .i64 ta, .int .i64 aka, .int .i64 aata, .bool na]) w := fun _ => by kernel_rfl
    have hI := fun u => inputOf_any u ⟨3, ta, aka, aata, na⟩
    have eI : inputV ⟨3, ta, aka, aata, na⟩ = .iface 375 (.agg #[.int .i64 3, .int .i64 ta, .int .i64 aka, .int .i64 aata, .bool na]) := rfl
    rw [eI] at hI
    clear eI
    have mW : ∀ w : World, (method 547 375 (.agg #[.int .i64 3, .int .i64 ta, .int .i64 aka, .int .i64 aata, .bool na]) "loop.example/stopgate/impl.waits").run Tryz.prog w = .ok (357, .agg #[.int .i64 3, .int .i64 ta, .int .i64 aka, .int .i64 aata, .bool na]) w := fun _ => by kernel_rfl
    go_wp2_with fail
    refine (hI _).mono ?_
    clear hI
    rintro e1 u1 ⟨rfl, g1⟩
    have hb1 : Below w.heap.size w u1 := (below_aN hb _).trans (g1.mono (by simp <;> omega))
    clear g1 hb hsz
    go_wp2_with fail
    refine (waits_lastInput _ 3 ta aka aata na j).mono ?_
    rintro e2 u2 ⟨rfl, g2⟩
    have hb2 : Below w.heap.size w u2 := hb1.trans (g2.mono (by have := hb1.size; omega))
    clear g2 hb1
    go_wp2
    go_roundw
    case rel => exact ⟨1, by omega, by first | rfl | go_num | simp, by simp, hb2⟩
    case measure => simp [intOf] <;> omega
   by_cases h2 : ka = 2
   ·subst h2
    cases hz : (ta == (j : Int))
    ·obtain rfl : ca = 0 := by rw [← HA.out, cntS_two, hz]; rfl
     have hX : ∀ w : World, (Instr.index 312 (.agg #[.int .i64 2, .int .i64 ta, .int .i64 aka, .int .i64 aata, .bool na, .int .i64 kb, .int .i64 tb, .int .i64 akb, .int .i64 aatb, .bool nb]) (.int .i64 0)).run Tryz.prog w = .ok (.agg #[.int .i64 2, .int .i64 ta, .int .i64 aka, .int .i64 aata, .bool na]) w := fun _ => by kernel_rfl
     have hI := fun u => inputOf_any u ⟨2, ta, aka, aata, na⟩
     have eI : inputV ⟨2, ta, aka, aata, na⟩ = .iface 374 (.agg #[.int .i64 2, .int .i64 ta, .int .i64 aka, .int .i64 aata, .bool na]) := rfl
     rw [eI] at hI
     clear eI
     have mW : ∀ w : World, (method 547 374 (.agg #[.int .i64 2, .int .i64 ta, .int .i64 aka, .int .i64 aata, .bool na]) "loop.example/stopgate/impl.waits").run Tryz.prog w = .ok (354, .agg #[.int .i64 2, .int .i64 ta, .int .i64 aka, .int .i64 aata, .bool na]) w := fun _ => by kernel_rfl
     go_wp2_with fail
     refine (hI _).mono ?_
     clear hI
     rintro e1 u1 ⟨rfl, g1⟩
     have hb1 : Below w.heap.size w u1 := (below_aN hb _).trans (g1.mono (by simp <;> omega))
     clear g1 hb hsz
     go_wp2_with fail
     refine (waits_wireInput _ 2 ta aka aata na j).mono ?_
     rw [hz]
     rintro e2 u2 ⟨rfl, g2⟩
     have hb2 : Below w.heap.size w u2 := hb1.trans (g2.mono (by have := hb1.size; omega))
     clear g2 hb1
     go_wp2
     go_roundw
     case rel => exact ⟨1, by omega, by first | rfl | go_num | simp, by simp, hb2⟩
     case measure => simp [intOf] <;> omega
    ·obtain rfl : ca = 1 := by rw [← HA.out, cntS_two, hz]; rfl
     have hX : ∀ w : World, (Instr.index 312 (.agg #[.int .i64 2, .int .i64 ta, .int .i64 aka, .int .i64 aata, .bool na, .int .i64 kb, .int .i64 tb, .int .i64 akb, .int .i64 aatb, .bool nb]) (.int .i64 0)).run Tryz.prog w = .ok (.agg #[.int .i64 2, .int .i64 ta, .int .i64 aka, .int .i64 aata, .bool na]) w := fun _ => by kernel_rfl
     have hI := fun u => inputOf_any u ⟨2, ta, aka, aata, na⟩
     have eI : inputV ⟨2, ta, aka, aata, na⟩ = .iface 374 (.agg #[.int .i64 2, .int .i64 ta, .int .i64 aka, .int .i64 aata, .bool na]) := rfl
     rw [eI] at hI
     clear eI
     have mW : ∀ w : World, (method 547 374 (.agg #[.int .i64 2, .int .i64 ta, .int .i64 aka, .int .i64 aata, .bool na]) "loop.example/stopgate/impl.waits").run Tryz.prog w = .ok (354, .agg #[.int .i64 2, .int .i64 ta, .int .i64 aka, .int .i64 aata, .bool na]) w := fun _ => by kernel_rfl
     go_wp2_with fail
     refine (hI _).mono ?_
     clear hI
     rintro e1 u1 ⟨rfl, g1⟩
     have hb1 : Below w.heap.size w u1 := (below_aN hb _).trans (g1.mono (by simp <;> omega))
     clear g1 hb hsz
     go_wp2_with fail
     refine (waits_wireInput _ 2 ta aka aata na j).mono ?_
     rw [hz]
     rintro e2 u2 ⟨rfl, g2⟩
     have hb2 : Below w.heap.size w u2 := hb1.trans (g2.mono (by have := hb1.size; omega))
     clear g2 hb1
     go_wp2
     go_roundw
     case rel => exact ⟨1, by omega, by first | rfl | go_num | simp, by simp, hb2⟩
     case measure => simp [intOf] <;> omega
   obtain rfl : ca = 0 := by rw [← HA.out]; exact cntS_not h2 j
   have n1 : (ka == 1) = false := by simpa using h1
   have n2 : (ka == 2) = false := by simpa using h2
   have n3 : (ka == 3) = false := by simpa using h3
   have hX : ∀ w : World, (Instr.index 312 (.agg #[.int .i64 ka, .int .i64 ta, .int .i64 aka, .int .i64 aata, .bool na, .int .i64 kb, .int .i64 tb, .int .i64 akb, .int .i64 aatb, .bool nb]) (.int .i64 0)).run Tryz.prog w = .ok (.agg #[.int .i64 ka, .int .i64 ta, .int .i64 aka, .int .i64 aata, .bool na]) w := fun _ => by kernel_rfl
   have hI := fun u => inputOf_any u ⟨ka, ta, aka, aata, na⟩
   have eI : inputV ⟨ka, ta, aka, aata, na⟩ = .nilIface := by unfold inputV; rw [if_neg h1, if_neg h2, if_neg h3]
   rw [eI] at hI
   clear eI h1 h2 h3
   go_wp2_with fail
   refine (hI _).mono ?_
   clear hI
   rintro e1 u1 ⟨rfl, g1⟩
   have hb1 : Below w.heap.size w u1 := (below_aN hb _).trans (g1.mono (by simp <;> omega))
   clear g1 hb hsz
   have hb2 := hb1
   go_wp2
   go_roundw
   case rel => exact ⟨1, by omega, by first | rfl | go_num | simp, by simp, hb2⟩
   case measure => simp [intOf] <;> omega
  ·rw [if_neg (by decide), if_pos rfl]
   by_cases h1 : kb = 1
   ·subst h1
    obtain rfl : cb = 0 := by rw [← HB.out]; exact cntS_not (show (1 : Int) ≠ 2 by decide) j
    have hX : ∀ w : World, (Instr.index 312 (.agg #[.int .i64 ka, .int .i64 ta, .int .i64 aka, .int .i64 aata, .bool na, .int .i64 1, .int .i64 tb, .int .i64 akb, .int .i64 aatb, .bool nb]) (.int .i64 1)).run Tryz.prog w = .ok (.agg #[.int .i64 1, .int .i64 tb, .int .i64 akb, .int .i64 aatb, .bool nb]) w := fun _ => by kernel_rfl
    have hI := fun u => inputOf_any u ⟨1, tb, akb, aatb, nb⟩
    have eI : inputV ⟨1, tb, akb, aatb, nb⟩ = .iface 371 (.agg #[.int .i64 1, .int .i64 tb, .int .i64 akb, .int .i64 aatb, .bool nb]) := rfl
    rw [eI] at hI
    clear eI
    have mW : ∀ w : World, (method 547 371 (.agg #[.int .i64 1, .int .i64 tb, .int .i64 akb, .int .i64 aatb, .bool nb]) "loop.example/stopgate/impl.waits").run Tryz.prog w = .ok (350, .agg #[.int .i64 1, .int .i64 tb, .int .i64 akb, .int .i64 aatb, .bool nb]) w := fun _ => by kernel_rfl
    go_wp2_with fail
    refine (hI _).mono ?_
    clear hI
    rintro e1 u1 ⟨rfl, g1⟩
    have hb1 : Below w.heap.size w u1 := (below_aN hb _).trans (g1.mono (by simp <;> omega))
    clear g1 hb hsz
    go_wp2_with fail
    refine (waits_addrInput _ 1 tb akb aatb nb j).mono ?_
    rintro e2 u2 ⟨rfl, g2⟩
    have hb2 : Below w.heap.size w u2 := hb1.trans (g2.mono (by have := hb1.size; omega))
    clear g2 hb1
    go_wp2
    go_roundw
    case rel => exact ⟨2, by omega, by first | rfl | go_num | simp, by simp, hb2⟩
    case measure => simp [intOf] <;> omega
   by_cases h3 : kb = 3
   ·subst h3
    obtain rfl : cb = 0 := by rw [← HB.out]; exact cntS_not (show (3 : Int) ≠ 2 by decide) j
    have hX : ∀ w : World, (Instr.index 312 (.agg #[.int .i64 ka, .int .i64 ta, .int .i64 aka, .int .i64 aata, .bool na, .int .i64 3, .int .i64 tb, .int .i64 akb, .int .i64 aatb, .bool nb]) (.int .i64 1)).run Tryz.prog w = .ok (.agg #[.int .i64 3, .int .i64 tb, .int .i64 akb, .int .i64 aatb, .bool nb]) w := fun _ => by kernel_rfl
    have hI := fun u => inputOf_any u ⟨3, tb, akb, aatb, nb⟩
    have eI : inputV ⟨3, tb, akb, aatb, nb⟩ = .iface 375 (.agg #[.int .i64 3, .int .i64 tb, .int .i64 akb, .int .i64 aatb, .bool nb]) := rfl
    rw [eI] at hI
    clear eI
    have mW : ∀ w : World, (method 547 375 (.agg #[.int .i64 3, .int .i64 tb, .int .i64 akb, .int .i64 aatb, .bool nb]) "loop.example/stopgate/impl.waits").run Tryz.prog w = .ok (357, .agg #[.int .i64 3, .int .i64 tb, .int .i64 akb, .int .i64 aatb, .bool nb]) w := fun _ => by kernel_rfl
    go_wp2_with fail
    refine (hI _).mono ?_
    clear hI
    rintro e1 u1 ⟨rfl, g1⟩
    have hb1 : Below w.heap.size w u1 := (below_aN hb _).trans (g1.mono (by simp <;> omega))
    clear g1 hb hsz
    go_wp2_with fail
    refine (waits_lastInput _ 3 tb akb aatb nb j).mono ?_
    rintro e2 u2 ⟨rfl, g2⟩
    have hb2 : Below w.heap.size w u2 := hb1.trans (g2.mono (by have := hb1.size; omega))
    clear g2 hb1
    go_wp2
    go_roundw
    case rel => exact ⟨2, by omega, by first | rfl | go_num | simp, by simp, hb2⟩
    case measure => simp [intOf] <;> omega
   by_cases h2 : kb = 2
   ·subst h2
    cases hz : (tb == (j : Int))
    ·obtain rfl : cb = 0 := by rw [← HB.out, cntS_two, hz]; rfl
     have hX : ∀ w : World, (Instr.index 312 (.agg #[.int .i64 ka, .int .i64 ta, .int .i64 aka, .int .i64 aata, .bool na, .int .i64 2, .int .i64 tb, .int .i64 akb, .int .i64 aatb, .bool nb]) (.int .i64 1)).run Tryz.prog w = .ok (.agg #[.int .i64 2, .int .i64 tb, .int .i64 akb, .int .i64 aatb, .bool nb]) w := fun _ => by kernel_rfl
     have hI := fun u => inputOf_any u ⟨2, tb, akb, aatb, nb⟩
     have eI : inputV ⟨2, tb, akb, aatb, nb⟩ = .iface 374 (.agg #[.int .i64 2, .int .i64 tb, .int .i64 akb, .int .i64 aatb, .bool nb]) := rfl
     rw [eI] at hI
     clear eI
     have mW : ∀ w : World, (method 547 374 (.agg #[.int .i64 2, .int .i64 tb, .int .i64 akb, .int .i64 aatb, .bool nb]) "loop.example/stopgate/impl.waits").run Tryz.prog w = .ok (354, .agg #[.int .i64 2, .int .i64 tb, .int .i64 akb, .int .i64 aatb, .bool nb]) w := fun _ => by kernel_rfl
     go_wp2_with fail
     refine (hI _).mono ?_
     clear hI
     rintro e1 u1 ⟨rfl, g1⟩
     have hb1 : Below w.heap.size w u1 := (below_aN hb _).trans (g1.mono (by simp <;> omega))
     clear g1 hb hsz
     go_wp2_with fail
     refine (waits_wireInput _ 2 tb akb aatb nb j).mono ?_
     rw [hz]
     rintro e2 u2 ⟨rfl, g2⟩
     have hb2 : Below w.heap.size w u2 := hb1.trans (g2.mono (by have := hb1.size; omega))
     clear g2 hb1
     go_wp2
     go_roundw
     case rel => exact ⟨2, by omega, by first | rfl | go_num | simp, by simp, hb2⟩
     case measure => simp [intOf] <;> omega
    ·obtain rfl : cb = 1 := by rw [← HB.out, cntS_two, hz]; rfl
     have hX : ∀ w : World, (Instr.index 312 (.agg #[.int .i64 ka, .int .i64 ta, .int .i64 aka, .int .i64 aata, .bool na, .int .i64 2, .int .i64 tb, .int .i64 akb, .int .i64 aatb, .bool nb]) (.int .i64 1)).run Tryz.prog w = .ok (.agg #[.int .i64 2, .int .i64 tb, .int .i64 akb, .int .i64 aatb, .bool nb]) w := fun _ => by kernel_rfl
     have hI := fun u => inputOf_any u ⟨2, tb, akb, aatb, nb⟩
     have eI : inputV ⟨2, tb, akb, aatb, nb⟩ = .iface 374 (.agg #[.int .i64 2, .int .i64 tb, .int .i64 akb, .int .i64 aatb, .bool nb]) := rfl
     rw [eI] at hI
     clear eI
     have mW : ∀ w : World, (method 547 374 (.agg #[.int .i64 2, .int .i64 tb, .int .i64 akb, .int .i64 aatb, .bool nb]) "loop.example/stopgate/impl.waits").run Tryz.prog w = .ok (354, .agg #[.int .i64 2, .int .i64 tb, .int .i64 akb, .int .i64 aatb, .bool nb]) w := fun _ => by kernel_rfl
     go_wp2_with fail
     refine (hI _).mono ?_
     clear hI
     rintro e1 u1 ⟨rfl, g1⟩
     have hb1 : Below w.heap.size w u1 := (below_aN hb _).trans (g1.mono (by simp <;> omega))
     clear g1 hb hsz
     go_wp2_with fail
     refine (waits_wireInput _ 2 tb akb aatb nb j).mono ?_
     rw [hz]
     rintro e2 u2 ⟨rfl, g2⟩
     have hb2 : Below w.heap.size w u2 := hb1.trans (g2.mono (by have := hb1.size; omega))
     clear g2 hb1
     go_wp2
     go_roundw
     case rel => exact ⟨2, by omega, by first | rfl | go_num | simp, by simp, hb2⟩
     case measure => simp [intOf] <;> omega
   obtain rfl : cb = 0 := by rw [← HB.out]; exact cntS_not h2 j
   have n1 : (kb == 1) = false := by simpa using h1
   have n2 : (kb == 2) = false := by simpa using h2
   have n3 : (kb == 3) = false := by simpa using h3
   have hX : ∀ w : World, (Instr.index 312 (.agg #[.int .i64 ka, .int .i64 ta, .int .i64 aka, .int .i64 aata, .bool na, .int .i64 kb, .int .i64 tb, .int .i64 akb, .int .i64 aatb, .bool nb]) (.int .i64 1)).run Tryz.prog w = .ok (.agg #[.int .i64 kb, .int .i64 tb, .int .i64 akb, .int .i64 aatb, .bool nb]) w := fun _ => by kernel_rfl
   have hI := fun u => inputOf_any u ⟨kb, tb, akb, aatb, nb⟩
   have eI : inputV ⟨kb, tb, akb, aatb, nb⟩ = .nilIface := by unfold inputV; rw [if_neg h1, if_neg h2, if_neg h3]
   rw [eI] at hI
   clear eI h1 h2 h3
   go_wp2_with fail
   refine (hI _).mono ?_
   clear hI
   rintro e1 u1 ⟨rfl, g1⟩
   have hb1 : Below w.heap.size w u1 := (below_aN hb _).trans (g1.mono (by simp <;> omega))
   clear g1 hb hsz
   have hb2 := hb1
   go_wp2
   go_roundw
   case rel => exact ⟨2, by omega, by first | rfl | go_num | simp, by simp, hb2⟩
   case measure => simp [intOf] <;> omega

def idxZ (xs : List Int) (z : Int) : Int := match (List.range xs.length).find? (fun i => xs[i]? == some z) with | some i => i | none => -1

theorem idx_none {xs : List Int} {z : Int} {m : Nat} (h : ∀ i, i < m → xs[i]? ≠ some z) : (List.range m).find? (fun i => xs[i]? == some z) = none := by
 rw [List.find?_eq_none]
 intro i hi
 have := h i (by simpa using hi)
 simpa using this
theorem idx_some {xs : List Int} {z : Int} {m n : Nat} (h : ∀ i, i < m → xs[i]? ≠ some z) (hm : xs[m]? = some z) (hn : m < n) : (List.range n).find? (fun i => xs[i]? == some z) = some m := by
 induction n with
 | zero => omega
 | succ n ih =>
  rw [List.range_succ, List.find?_append]
  by_cases e : m = n
  ·subst e
   rw [idx_none h]
   simp [hm]
  ·rw [ih (by omega)]; rfl

set_option maxHeartbeats 2000000 in
theorem index_any (w : World) (lo hi : Nat) (v : Value) (xs : List Int) (z : Int) (h : SI w lo hi v xs) :
  Calls Tryz.prog 188 #[v, .int .i64 z] w fun e w' => e = .returned (.int .i64 (idxZ xs z)) ∧ w' = w := by
 obtain ⟨a, cap, rfl, h1, h2, h3⟩ := h
 unfold maxLen at h2
 obtain ⟨R, hR⟩ : ∃ R, idxZ xs z = R := ⟨_, rfl⟩
 rw [hR]
 have HR : Hid (idxZ xs z = R) := hR
 clear hR
 go_enter Tryz.func188, Tryz.ntmps188
 go_wp2
 go_loopw [8] (fun i wr => ∃ j : Nat, j ≤ xs.length ∧ i = .int .i64 j ∧ wr = w ∧ ∀ i, i < j → xs[i]? ≠ some z) (fun i _ => xs.length - (intOf i).toNat)
 case atStart => exact ⟨0, Nat.zero_le _, rfl, rfl, fun i hi => by omega⟩
 case round =>
  obtain ⟨j, hj, rfl, rfl, hno⟩ := hrel
  have HN : Hid (∀ i, i < j → xs[i]? ≠ some z) := hno
  clear hno
  by_cases hlt : j < xs.length
  ·obtain ⟨y, hy⟩ : ∃ y, xs[j]? = some y := ⟨xs[j], List.getElem?_eq_getElem hlt⟩
   rcases h3 with h0 | ⟨b, off, rfl, _, _, hc⟩
   ·rw [h0] at hlt; simp at hlt
   have c1 := hc j y hy
   have HY : Hid (xs[j]? = some y) := hy
   clear hy hc
   by_cases hzy : z = y
   ·have HF : Hid (R = (j : Int)) := by
     show R = (j : Int)
     rw [← HR.out]
     unfold idxZ
     rw [idx_some HN.out (by rw [HY.out, hzy]) hlt]
    have e : (z == y) = true := by simpa using hzy
    clear hzy
    go_wp2
    go_ret
    exact ⟨ret_int HF.out.symm, rfl⟩
   ·have e : (z == y) = false := by simpa using hzy
    have HNN : Hid (∀ i, i < j + 1 → xs[i]? ≠ some z) := fun i hi => by
     by_cases ei : i = j
     ·rw [ei, HY.out]; intro h; exact hzy (Option.some.inj h).symm
     ·exact HN.out i (by omega)
    clear hzy
    go_wp2
    go_roundw
    case rel => exact ⟨j + 1, by omega, by go_num, by first | rfl | trivial, HNN.out⟩
    case measure => simp [intOf]; omega
  ·obtain rfl : j = xs.length := by omega
   have HF : Hid (R = -1) := by
    show R = -1
    rw [← HR.out]
    unfold idxZ
    rw [idx_none HN.out]
   clear h3
   go_wp2
   go_ret
   exact ⟨ret_int HF.out.symm, rfl⟩
end Go.Proofs.YtaoiookfmgpmkaaGreatDoor
