/-
  The reader of draws (package spec): a reader opened over any bytes; each pick from 1 to 1000000 ways gives a number from 0 to one less than the ways, and writes only the reader's own place.
-/
import Derived.Test.YtgfoimleoekkiaaKit
namespace Go.Proofs.Ytgfoimleoekkiaa
open Go.ChangeShapes Go.WideShapes Go.ChangeAt Go.RowKit
set_option linter.unusedVariables false

/-- The bytes of a row, where the row has at least one. -/
def Bytes8 (w : World) (n0 : Nat) (a : Option Addr) (len : Nat) : Prop :=
  len = 0 ∨ ∃ b off, a = some ⟨b, off, none⟩ ∧ b < n0 ∧ ∀ i, i < len → ∃ z, w.cell? ⟨b, off + i, none⟩ = some (.int .u8 z) ∧ 0 ≤ z ∧ z ≤ 255

/-- A reader at block B, at place p. -/
structure Rd (n0 : Nat) (w : World) (B : Nat) (a : Option Addr) (len cap : Nat) (p : Int) : Prop where
  lo : n0 ≤ B
  hi : B < w.heap.size
  c0 : w.cell? ⟨B, 0, none⟩ = some (.slice a len cap)
  c1 : w.cell? ⟨B, 1, none⟩ = some (.int .i64 p)
  f1 : w.frozen? ⟨B, 1, none⟩ = false
  bytes : Bytes8 w n0 a len
  short : len ≤ 2000
  p0 : 0 ≤ p
  p1 : p ≤ 1000000

set_option maxHeartbeats 400000 in
theorem pick_none (n0 : Nat) (w : World) (B : Nat) (a : Option Addr) (cap : Nat) (p n : Int)
    (h : Rd n0 w B a 0 cap p) (hn : 1 ≤ n) (hn' : n ≤ 1000000) :
    Calls Try.prog 25 #[.pointer (some ⟨B, 0, none⟩), .int .i64 n] w fun e w' => e = .returned (.int .i64 0) ∧ w' = w.setCell ⟨B, 1, none⟩ (.int .i64 (p + 1)) := by
  obtain ⟨_, _, c0, c1, f1, _, _, p0, p1⟩ := h
  go_enter Try.func25, Try.ntmps25
  go_wp2
  go_ret
  exact ⟨rfl, rfl⟩

set_option maxHeartbeats 400000 in
theorem pick_in (n0 : Nat) (w : World) (B : Nat) (a : Option Addr) (len cap : Nat) (p n : Int)
    (h : Rd n0 w B a len cap p) (hn : 1 ≤ n) (hn' : n ≤ 1000000) (hp : p < len) :
    Calls Try.prog 25 #[.pointer (some ⟨B, 0, none⟩), .int .i64 n] w fun e w' => ∃ r, e = .returned (.int .i64 r) ∧ 0 ≤ r ∧ r < n ∧ w' = w.setCell ⟨B, 1, none⟩ (.int .i64 (p + 1)) := by
  obtain ⟨lo, hi, c0, c1, f1, by8, sh, p0, p1⟩ := h
  obtain ⟨k, rfl⟩ : ∃ k : Nat, p = (k : Int) := ⟨p.toNat, by omega⟩
  rcases by8 with h0 | ⟨b, off, rfl, hb, hc⟩
  · omega
  obtain ⟨z, hck, hz0, hz1⟩ := hc k (by omega)
  have hbB : ¬ b = B := by omega
  have hn2 : ¬ n < 1 := by omega
  have hl0 : ((len : Int) == 0) = false := by simp; omega
  have hlz : (0 : Int) < len := by omega
  clear hc
  go_enter Try.func25, Try.ntmps25
  go_wp2
  go_ret
  exact ⟨_, rfl, by first | omega | exact Int.emod_nonneg _ (by omega), by first | omega | exact Int.emod_lt_of_pos _ (by omega), rfl⟩

theorem xor_i64_nat (a b : Nat) (ha : a < 4611686018427387904) (hb : b < 4611686018427387904) :
    bits .xor .i64 (a : Int) (b : Int) = ((a ^^^ b : Nat) : Int) := by
  have hx : a ^^^ b < 2 ^ 62 := Nat.xor_lt_two_pow (by omega) (by omega)
  have h1 : (BitVec.ofInt 64 (a : Int)).toNat = a := by
    rw [BitVec.ofInt_natCast, BitVec.toNat_ofNat]; exact Nat.mod_eq_of_lt (by omega)
  have h2 : (BitVec.ofInt 64 (b : Int)).toNat = b := by
    rw [BitVec.ofInt_natCast, BitVec.toNat_ofNat]; exact Nat.mod_eq_of_lt (by omega)
  show IntKind.i64.wrap ((BitVec.ofInt 64 (a : Int) ^^^ BitVec.ofInt 64 (b : Int)).toNat : Int) = _
  rw [BitVec.toNat_xor, h1, h2]
  simp only [IntKind.wrap, IntKind.bits, IntKind.signed]
  simp
  omega

/-- The mixture that a pick makes past the bytes' end stays from 0 to one less than the ways. -/
theorem mix_bd (x n : Int) (h0 : 0 ≤ x) (h1 : x < 1000000000000) (hn : 1 ≤ n) :
    0 ≤ (bits .xor .i64 x (x / 64)).tmod n ∧ (bits .xor .i64 x (x / 64)).tmod n < n := by
  obtain ⟨a, rfl⟩ : ∃ a : Nat, x = (a : Int) := ⟨x.toNat, by omega⟩
  have hx := xor_i64_nat a (a / 64) (by omega) (by omega)
  have hd : ((a / 64 : Nat) : Int) = (a : Int) / 64 := by simp
  rw [hd] at hx
  rw [hx]
  exact ⟨Int.tmod_nonneg _ (by omega), Int.tmod_lt_of_pos _ (by omega)⟩

set_option maxHeartbeats 800000 in
theorem pick_far (n0 : Nat) (w : World) (B : Nat) (a : Option Addr) (len cap : Nat) (p n : Int)
    (h : Rd n0 w B a len cap p) (hn : 1 ≤ n) (hn' : n ≤ 1000000) (hl : 1 ≤ len) (hp : len ≤ p) :
    Calls Try.prog 25 #[.pointer (some ⟨B, 0, none⟩), .int .i64 n] w fun e w' => ∃ r m, e = .returned (.int .i64 r) ∧ 0 ≤ r ∧ r < n ∧ w' = (w.setCell ⟨B, 1, none⟩ (.int .i64 (p + 1))).drewN m := by
  obtain ⟨lo, hi, c0, c1, f1, by8, sh, p0, p1⟩ := h
  obtain ⟨k, rfl⟩ : ∃ k : Nat, p = (k : Int) := ⟨p.toNat, by omega⟩
  rcases by8 with h0 | ⟨b, off, rfl, hb, hc⟩
  · omega
  have i1 : 0 ≤ (k : Int) % len := Int.emod_nonneg _ (by omega)
  have i2 : (k : Int) % len < len := Int.emod_lt_of_pos _ (by omega)
  have j1 : 0 ≤ ((k : Int) * 7 + 3) % len := Int.emod_nonneg _ (by omega)
  have j2 : ((k : Int) * 7 + 3) % len < len := Int.emod_lt_of_pos _ (by omega)
  obtain ⟨z, hck, hz0, hz1⟩ := hc (k % len) (Nat.mod_lt _ (by omega))
  obtain ⟨y, hcj, hy0, hy1⟩ := hc ((k * 7 + 3) % len) (Nat.mod_lt _ (by omega))
  have q0 : 0 ≤ (k : Int) / len := Int.ediv_nonneg (by omega) (by omega)
  have q1 : (k : Int) / len ≤ k := Int.ediv_le_self _ (by omega)
  have hbB : ¬ b = B := by omega
  have hn2 : ¬ n < 1 := by omega
  have hl0 : ((len : Int) == 0) = false := by simp; omega
  have hlz : (0 : Int) < len := by omega
  have hp2 : ¬ (k : Int) < len := by omega
  clear hc
  go_enter Try.func25, Try.ntmps25
  go_wp2_with fail
  go_quiet (fail)
  go_wp2
  go_ret
  exact ⟨_, nq, rfl, (mix_bd _ n (by omega) (by omega) hn).1, (mix_bd _ n (by omega) (by omega) hn).2, rfl⟩

/-- A reader behind a pick. -/
theorem Rd.next {n0 : Nat} {w : World} {B : Nat} {a : Option Addr} {len cap : Nat} {p : Int} (h : Rd n0 w B a len cap p) (hp : p < 1000000) (m : Nat) :
    Rd n0 ((w.setCell ⟨B, 1, none⟩ (.int .i64 (p + 1))).drewN m) B a len cap (p + 1) := by
  obtain ⟨lo, hi, c0, c1, f1, by8, sh, p0, p1⟩ := h
  refine ⟨lo, by simpa [World.setCell] using hi, ?_, ?_, ?_, ?_, sh, by omega, by omega⟩
  · rw [World.cell?_drewN, cell_set_other w (Or.inr (by omega))]; exact c0
  · rw [World.cell?_drewN]; exact World.cell?_setCell_same _ _ _ c1
  · rw [World.frozen?_drewN, World.frozen?_setCell]; exact f1
  · rcases by8 with h0 | ⟨b, off, ha, hb, hc⟩
    · exact .inl h0
    · refine .inr ⟨b, off, ha, hb, fun i hi => ?_⟩
      rw [World.cell?_drewN, cell_set_other w (Or.inl (by omega))]
      exact hc i hi

/-- A pick writes only the reader's own place. -/
theorem Rd.below {n0 : Nat} {w : World} {B : Nat} {a : Option Addr} {len cap : Nat} {p : Int} (h : Rd n0 w B a len cap p) (v : Value) (m : Nat) :
    Below n0 w ((w.setCell ⟨B, 1, none⟩ v).drewN m) :=
  below_drewN ((Below.refl _ _).setCell h.lo _) m

theorem pick_any (n0 : Nat) (w : World) (B : Nat) (a : Option Addr) (len cap : Nat) (p n : Int)
    (h : Rd n0 w B a len cap p) (hn : 1 ≤ n) (hn' : n ≤ 1000000) :
    Calls Try.prog 25 #[.pointer (some ⟨B, 0, none⟩), .int .i64 n] w fun e w' => ∃ r m, e = .returned (.int .i64 r) ∧ 0 ≤ r ∧ r < n ∧ w' = (w.setCell ⟨B, 1, none⟩ (.int .i64 (p + 1))).drewN m := by
  by_cases h0 : len = 0
  · subst h0
    exact (pick_none n0 w B a cap p n h hn hn').mono fun e w' ⟨he, hw⟩ => ⟨0, 0, he, by omega, by omega, hw⟩
  · by_cases h1 : p < len
    · exact (pick_in n0 w B a len cap p n h hn hn' h1).mono fun e w' ⟨r, he, h2, h3, hw⟩ => ⟨r, 0, he, h2, h3, hw⟩
    · exact pick_far n0 w B a len cap p n h hn hn' (by omega) (by omega)

set_option maxHeartbeats 400000 in
/-- One of a list of numbers. -/
theorem num_any (n0 : Nat) (w : World) (B : Nat) (a : Option Addr) (len cap : Nat) (p : Int) (g o L C : Nat)
    (h : Rd n0 w B a len cap p) (hL : 1 ≤ L) (hL' : L ≤ 1000000) (hg : g ≠ B)
    (hc : ∀ i, i < L → ∃ v, w.cell? ⟨g, o + i, none⟩ = some (.int .i64 v)) :
    Calls Try.prog 26 #[.pointer (some ⟨B, 0, none⟩), .slice (some ⟨g, o, none⟩) L C] w fun e w' => ∃ v m i, i < L ∧ w.cell? ⟨g, o + i, none⟩ = some (.int .i64 v) ∧ e = .returned (.int .i64 v) ∧ w' = (w.setCell ⟨B, 1, none⟩ (.int .i64 (p + 1))).drewN m := by
  go_enter Try.func26, Try.ntmps26
  go_wp2_with fail
  refine (pick_any n0 w B a len cap p L h (by omega) (by omega)).mono ?_
  rintro e w' ⟨r, m, rfl, h0, h1, rfl⟩
  obtain ⟨i, rfl⟩ : ∃ i : Nat, r = (i : Int) := ⟨r.toNat, by omega⟩
  obtain ⟨v, hv⟩ := hc i (by omega)
  have hv' : (w.setCell ⟨B, 1, none⟩ (.int .i64 (p + 1))).cell? ⟨g, o + i, none⟩ = some (.int .i64 v) := by
    rw [cell_set_other w (Or.inl hg)]; exact hv
  clear hc
  go_wp2
  go_ret
  exact ⟨v, m, i, by omega, hv, rfl, rfl⟩

/-- A reader stays, where old blocks stay. -/
theorem Rd.kept {n0 : Nat} {w w1 : World} {B : Nat} {a : Option Addr} {len cap : Nat} {p : Int} (h : Rd n0 w B a len cap p) (hb : Below w.heap.size w w1) :
    Rd n0 w1 B a len cap p := by
  obtain ⟨lo, hi, c0, c1, f1, by8, sh, p0, p1⟩ := h
  have hs := hb.size
  refine ⟨lo, by omega, ?_, ?_, ?_, ?_, sh, p0, p1⟩
  · rw [hb.cell (p := ⟨B, 0, none⟩) hi]; exact c0
  · rw [hb.cell (p := ⟨B, 1, none⟩) hi]; exact c1
  · rw [hb.frozen (p := ⟨B, 1, none⟩) hi]; exact f1
  · rcases by8 with h0 | ⟨b, off, ha, hb', hc⟩
    · exact .inl h0
    · refine .inr ⟨b, off, ha, hb', fun i hi => ?_⟩
      rw [hb.cell (p := ⟨b, off + i, none⟩) (by show b < _; omega)]
      exact hc i hi

/-- All cells of a row are ints. -/
def allInts (c : List Value) : Bool := c.all fun v => match v with | .int .i64 _ => true | _ => false

theorem ints_new (w : World) (c : Array Value) (t : TypeId) (n : Nat) (hn : c.size = n) (hc : allInts c.toList = true) :
    ∀ i, i < n → ∃ v, (w.alloc (.cells c t)).cell? ⟨w.heap.size, 0 + i, none⟩ = some (.int .i64 v) := by
  intro i hi
  rw [Nat.zero_add, World.cell?_alloc_new]
  have hi' : i < c.size := by omega
  have h := List.all_eq_true.mp hc c[i] (by simp)
  rw [Array.getElem?_eq_getElem hi']
  split at h
  · rename_i k v hv; exact ⟨_, by rw [hv]⟩
  · simp at h

set_option maxHeartbeats 400000 in
/-- A reader is opened over bytes: it lies in a new block, at its first place. -/
theorem open_any (w : World) (a : Option Addr) (len cap : Nat) (hb : Bytes8 w w.heap.size a len) (hlc : len ≤ cap) (hm : cap ≤ maxLen) :
    Calls Try.prog 23 #[.slice a len cap] w fun e w' => ∃ len', e = .returned (.pointer (some ⟨w.heap.size, 0, none⟩)) ∧ Rd w.heap.size w' w.heap.size a len' cap 0 ∧ Below w.heap.size w w' := by
  unfold maxLen at hm
  have hsub : ∀ n, n ≤ len → n ≤ 2000 → Rd w.heap.size (w.alloc (.cells #[.slice a n cap, .int .i64 0] 61)) w.heap.size a n cap 0 := by
    intro n hn hn'
    refine ⟨Nat.le_refl _, by simp, ?_, ?_, ?_, ?_, hn', by omega, by omega⟩
    · rw [World.cell?_alloc_new]; rfl
    · rw [World.cell?_alloc_new]; rfl
    · exact World.frozen?_alloc_new _ _ _ _
    · rcases hb with h0 | ⟨b, off, ha, hb', hc⟩
      · exact .inl (by omega)
      · refine .inr ⟨b, off, ha, hb', fun i hi => ?_⟩
        rw [World.cell?_alloc_lt _ _ _ (by exact hb')]
        exact hc i (by omega)
  by_cases h : 2000 < len
  · have H : Hid (Rd w.heap.size (w.alloc (.cells #[.slice a 2000 cap, .int .i64 0] 61)) w.heap.size a 2000 cap 0) := hsub 2000 (by omega) (by omega)
    clear hsub
    go_enter Try.func23, Try.ntmps23
    go_wp2
    go_ret
    exact ⟨2000, rfl, H.out, (Below.refl _ _).alloc (Nat.le_refl _) _⟩
  · have H : Hid (Rd w.heap.size (w.alloc (.cells #[.slice a len cap, .int .i64 0] 61)) w.heap.size a len cap 0) := hsub len (by omega) (by omega)
    clear hsub
    go_enter Try.func23, Try.ntmps23
    go_wp2
    go_ret
    exact ⟨len, rfl, H.out, (Below.refl _ _).alloc (Nat.le_refl _) _⟩

/-- A pick, over a world of which only what matters is said. -/
theorem pick_rd (n0 : Nat) (w : World) (B : Nat) (a : Option Addr) (len cap : Nat) (p n : Int)
    (h : Rd n0 w B a len cap p) (hn : 1 ≤ n) (hn' : n ≤ 1000000) (hp : p < 1000000) :
    Calls Try.prog 25 #[.pointer (some ⟨B, 0, none⟩), .int .i64 n] w fun e w' => ∃ r, e = .returned (.int .i64 r) ∧ 0 ≤ r ∧ r < n ∧ Rd n0 w' B a len cap (p + 1) ∧ Below n0 w w' :=
  (pick_any n0 w B a len cap p n h hn hn').mono fun e w' ⟨r, m, he, h0, h1, hw⟩ => ⟨r, he, h0, h1, by rw [hw]; exact h.next hp m, by rw [hw]; exact h.below _ m⟩

/-- One of a list of numbers, over a world of which only what matters is said. -/
theorem num_rd (n0 : Nat) (w : World) (B : Nat) (a : Option Addr) (len cap : Nat) (p : Int) (g o L C : Nat)
    (h : Rd n0 w B a len cap p) (hp : p < 1000000) (hL : 1 ≤ L) (hL' : L ≤ 1000000) (hg : g ≠ B)
    (hc : ∀ i, i < L → ∃ v, w.cell? ⟨g, o + i, none⟩ = some (.int .i64 v)) :
    Calls Try.prog 26 #[.pointer (some ⟨B, 0, none⟩), .slice (some ⟨g, o, none⟩) L C] w fun e w' => ∃ v i, e = .returned (.int .i64 v) ∧ i < L ∧ w.cell? ⟨g, o + i, none⟩ = some (.int .i64 v) ∧ Rd n0 w' B a len cap (p + 1) ∧ Below n0 w w' :=
  (num_any n0 w B a len cap p g o L C h hL hL' hg hc).mono fun e w' ⟨v, m, i, hi, hv, he, hw⟩ => ⟨v, i, he, hi, hv, by rw [hw]; exact h.next hp m, by rw [hw]; exact h.below _ m⟩

end Go.Proofs.Ytgfoimleoekkiaa
