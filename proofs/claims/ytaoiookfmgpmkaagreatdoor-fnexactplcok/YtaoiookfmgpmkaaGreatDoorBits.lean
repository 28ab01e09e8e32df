/-
  Steps as bits: add, has, bitsAt, list of impl.bitset.
-/
import Derived.Test.YtaoiookfmgpmkaaGreatDoorChartNewD
namespace Go.Proofs.YtaoiookfmgpmkaaGreatDoor
open Go.ChangeShapes Go.WideShapes Go.ChangeAt Go.RowKit
set_option linter.unusedVariables false
set_option linter.unusedSimpArgs false
set_option maxRecDepth 100000

theorem has_bits : ∀ m, m < 64 → ∀ a, a < 6 → (bits .and .u8 (((m : Nat) : Int) / 2 ^ a) 1 == 1) = m.testBit a := by decide +kernel
theorem or_bits : ∀ m, m < 64 → ∀ a, a < 6 → bits .or .u8 ((m : Nat) : Int) (2 ^ a % 256) = ((m ||| 2 ^ a : Nat) : Int) := by decide +kernel

/-- The bits at these places. -/
def bitsN (xs : List Int) : Nat := xs.foldl (fun m x => m ||| 2 ^ x.toNat) 0
theorem bitsN_snoc (xs : List Int) (x : Int) : bitsN (xs ++ [x]) = bitsN xs ||| 2 ^ x.toNat := by unfold bitsN; rw [List.foldl_append]; rfl
theorem bitsN_take {xs : List Int} {j : Nat} {x : Int} (h : xs[j]? = some x) : bitsN (xs.take (j + 1)) = bitsN (xs.take j) ||| 2 ^ x.toNat := by
  rw [List.take_add_one, h]; exact bitsN_snoc _ _
theorem bitsN_lt : ∀ (xs : List Int), (∀ x ∈ xs, 0 ≤ x ∧ x < 6) → bitsN xs < 64 := by
  have main : ∀ (xs : List Int) (m : Nat), m < 2 ^ 6 → (∀ x ∈ xs, 0 ≤ x ∧ x < 6) → xs.foldl (fun m x => m ||| 2 ^ x.toNat) m < 2 ^ 6 := by
    intro xs
    induction xs with
    | nil => intro m hm _; exact hm
    | cons x xs ih =>
      intro m hm h
      have hx := h x (by simp)
      exact ih _ (Nat.or_lt_two_pow (n := 6) hm (Nat.pow_lt_pow_right (by decide) (by omega))) fun y hy => h y (by simp [hy])
  exact fun xs h => main xs 0 (by decide) h
def listB (m n : Nat) : List Bool := (List.range n).map fun i => m.testBit i
theorem listB_length (m n : Nat) : (listB m n).length = n := by simp [listB]
theorem listB_at {m n i : Nat} (h : i < n) : (listB m n)[i]? = some (m.testBit i) := by simp [listB, h]
theorem listB_one (n : Nat) (h : n ≤ 6) : listB 1 n = onL n := by
  have : ∀ n, n ≤ 6 → listB 1 n = onL n := by decide +kernel
  exact this n h

set_option maxHeartbeats 1000000 in
theorem addB_any (w : World) (b m a : Nat) (ha : a < 6) (hm : m < 64) (hb : w.cell? ⟨b, 0, none⟩ = some (.int .u8 (m : Int))) (hf : w.frozen? ⟨b, 0, none⟩ = false) :
    Calls Tryz.prog 220 #[.pointer (some ⟨b, 0, none⟩), .int .i64 (a : Int)] w fun e w' => e = .returned (.tuple #[]) ∧ w' = (w.setCell ⟨b, 0, none⟩ (.int .u8 ((m ||| 2 ^ a : Nat) : Int))).drew := by
  rw [← or_bits m hm a ha]
  go_enter Tryz.func220, Tryz.ntmps220
  go_wp2_with fail
  go_region
  go_wp2
  go_end0
  exact ⟨rfl, rfl⟩

set_option maxHeartbeats 1000000 in
theorem hasB_any (w : World) (m a : Nat) (ha : a < 6) (hm : m < 64) :
    Calls Tryz.prog 221 #[.int .u8 (m : Int), .int .i64 (a : Int)] w fun e w' => e = .returned (.bool (m.testBit a)) ∧ w' = w := by
  rw [← has_bits m hm a ha]
  go_enter Tryz.func221, Tryz.ntmps221
  go_wp2
  go_ret
  exact ⟨rfl, rfl⟩

theorem zero_bitset : (Tryz.prog.info? 231).map (fun i => (i.zero, i.size)) = some (some (.int .u8 0), 1) := by kernel_rfl
set_option maxHeartbeats 4000000 in
theorem bitsAt_any (w : World) (lo hi : Nat) (v : Value) (xs : List Int) (h : SI w lo hi v xs) (hhi : hi ≤ w.heap.size) (hx : ∀ x ∈ xs, 0 ≤ x ∧ x < 6) :
    Calls Tryz.prog 156 #[v] w fun e w' => e = .returned (.int .u8 ((bitsN xs : Nat) : Int)) ∧ Below w.heap.size w w' := by
  obtain ⟨R, hR⟩ : ∃ R, bitsN xs = R := ⟨_, rfl⟩
  rw [hR]
  have HR : Hid (bitsN xs = R) := hR
  clear hR
  obtain ⟨ad, cap, rfl, h1, h2, h3⟩ := h
  unfold maxLen at h2
  have HX : Hid (∀ x ∈ xs, 0 ≤ x ∧ x < 6) := hx
  clear hx
  go_enter Tryz.func156, Tryz.ntmps156
  go_wp2_with fail
  obtain ⟨u0, hu0, G0, c0, f0, s0⟩ : ∃ u0, w.alloc (.cells #[.int .u8 0] 231) = u0 ∧ Below w.heap.size w u0 ∧ u0.cell? ⟨w.heap.size, 0, none⟩ = some (.int .u8 ((bitsN (xs.take 0) : Nat) : Int)) ∧ u0.frozen? ⟨w.heap.size, 0, none⟩ = false ∧ w.heap.size < u0.heap.size :=
    ⟨_, rfl, (Below.refl _ _).alloc (Nat.le_refl _) _, World.cell?_alloc_new _ _ _ _, World.frozen?_alloc_new _ _ _ _, by simp⟩
  rw [hu0]
  clear hu0
  go_loopw [8] (fun i wr => ∃ j : Nat, j ≤ xs.length ∧ i = .int .i64 j ∧ Below w.heap.size w wr ∧ wr.cell? ⟨w.heap.size, 0, none⟩ = some (.int .u8 ((bitsN (xs.take j) : Nat) : Int)) ∧ wr.frozen? ⟨w.heap.size, 0, none⟩ = false ∧ w.heap.size < wr.heap.size) (fun i _ => xs.length - (intOf i).toNat)
  case atStart => exact ⟨0, Nat.zero_le _, rfl, G0, c0, f0, s0⟩
  case round =>
    clear G0 c0 f0 s0
    obtain ⟨j, hj, rfl, hb, cb, fb, sb⟩ := hrel
    by_cases hlt : j < xs.length
    · obtain ⟨x, hx⟩ : ∃ x, xs[j]? = some x := ⟨xs[j], List.getElem?_eq_getElem hlt⟩
      rcases h3 with h0 | ⟨b, off, rfl, hl0, hh0, hc⟩
      · rw [h0] at hlt; simp at hlt
      have hxr := HX.out x (List.mem_of_getElem? hx)
      obtain ⟨a, ha⟩ : ∃ a : Nat, x = (a : Int) := ⟨x.toNat, by omega⟩
      have c1 : wr.cell? ⟨b, off + j, none⟩ = some (.int .i64 (a : Int)) := by rw [hb.cell (p := ⟨b, off + j, none⟩) (by show b < _; omega)]; rw [← ha]; exact hc j x hx
      have hlt64 := bitsN_lt (xs.take j) fun y hy => HX.out y (List.mem_of_mem_take hy)
      have hnx := bitsN_take hx
      rw [ha, Int.toNat_natCast] at hnx
      have ha6 : a < 6 := by omega
      have hadd := addB_any wr w.heap.size (bitsN (xs.take j)) a ha6 hlt64 cb fb
      rw [← hnx] at hadd
      have hn64 := bitsN_lt (xs.take (j + 1)) fun y hy => HX.out y (List.mem_of_mem_take hy)
      obtain ⟨M', hM'⟩ : ∃ M', bitsN (xs.take (j + 1)) = M' := ⟨_, rfl⟩
      rw [hM'] at hadd hn64
      have HN : Hid (Below w.heap.size w (wr.setCell ⟨w.heap.size, 0, none⟩ (.int .u8 (M' : Int))).drew ∧ (wr.setCell ⟨w.heap.size, 0, none⟩ (.int .u8 (M' : Int))).drew.cell? ⟨w.heap.size, 0, none⟩ = some (.int .u8 (M' : Int)) ∧ (wr.setCell ⟨w.heap.size, 0, none⟩ (.int .u8 (M' : Int))).drew.frozen? ⟨w.heap.size, 0, none⟩ = false ∧ w.heap.size < (wr.setCell ⟨w.heap.size, 0, none⟩ (.int .u8 (M' : Int))).drew.heap.size) :=
        ⟨(hb.setCell (p := ⟨w.heap.size, 0, none⟩) (Nat.le_refl _) _).drew, World.cell?_setCell_same _ _ _ cb, by show (wr.setCell ⟨w.heap.size, 0, none⟩ (.int .u8 (M' : Int))).frozen? _ = _; rw [World.frozen?_setCell]; exact fb, by show _ < (wr.setCell ⟨w.heap.size, 0, none⟩ (.int .u8 (M' : Int))).heap.size; rw [World.size_setCell]; exact sb⟩
      have HM : Hid (bitsN (xs.take (j + 1)) = M') := hM'
      clear hc hx hnx hxr ha cb fb hb sb hlt64 hM'
      go_wp2_with fail
      refine hadd.mono ?_
      clear hadd c1
      rintro e2 u2 ⟨rfl, rfl⟩
      go_wp2
      go_roundw
      case rel => exact ⟨j + 1, by omega, by go_num, HN.out.1, by rw [HM.out]; exact HN.out.2.1, HN.out.2.2.1, HN.out.2.2.2⟩
      case measure => simp [intOf]; omega
    · obtain rfl : j = xs.length := by omega
      rw [List.take_length, HR.out] at cb
      go_wp2
      go_ret
      exact ⟨rfl, hb⟩

set_option maxHeartbeats 4000000 in
theorem listB_any (w : World) (m n : Nat) (hm : m < 64) (hn : n ≤ 6) :
    Calls Tryz.prog 157 #[.int .u8 (m : Int), .int .i64 (n : Int)] w fun e w' => ∃ g, e = .returned (.slice (some ⟨g, 0, none⟩) n n) ∧ w.heap.size ≤ g ∧ g < w'.heap.size ∧ GO bool2 w' g (g + 1) (.slice (some ⟨g, 0, none⟩) n n) (listB m n) ∧ Below w.heap.size w w' := by
  obtain ⟨i0, hi0, hz0, hz1, hz2⟩ := info_parts info_bool2
  obtain ⟨ps, hps⟩ : ∃ ps, listB m n = ps := ⟨_, rfl⟩
  have hlen : n = ps.length := by rw [← hps, listB_length]
  rw [hps]
  have HP : Hid (listB m n = ps) := hps
  have HL : Hid (n = ps.length) := hlen
  clear hps hlen
  go_enter Tryz.func157, Tryz.ntmps157
  go_wp2_with (at_make; refine wpList_make_full _ rfl _ _ 44 rfl w.heap.size 4 i0 (.bool false) 1 Tryz.underlying44 hi0 hz0 hz1 .i64 .i64 _ _ n rfl rfl rfl rfl (by rw [hz2]; omega) (by unfold maxLen; omega) (Nat.le_refl _) ?_; intro w1 hown hgrow)
  have hI : ToG bool2 w w.heap.size ps 0 w1 := by
    rw [HL.out] at hown
    exact toG_start (E := bool2) hown hgrow
  clear hown hgrow hz0 hz1 hz2 hi0
  go_loopw [11] (fun i wr => ∃ j : Nat, j ≤ n ∧ i = .int .i64 j ∧ ToG bool2 w w.heap.size ps j wr) (fun i _ => n - (intOf i).toNat)
  case atStart => exact ⟨0, Nat.zero_le _, rfl, hI⟩
  case round =>
    clear hI
    obtain ⟨j, hj, rfl, hI⟩ := hrel
    by_cases hlt : j < n
    · have he : ps[j]? = some (m.testBit j) := by rw [← HP.out]; exact listB_at hlt
      obtain ⟨hs, hf⟩ := hI.stores (Below.refl _ wr) (by rw [← HL.out]; exact hlt) (m.testBit j)
      have hs' : (wr.cell? ⟨w.heap.size, j, none⟩).isSome = true := hs j (by show j * 1 ≤ j; omega) (by show j < j * 1 + 1; omega)
      have hf' : wr.frozen? ⟨w.heap.size, j, none⟩ = false := hf j (by show j * 1 ≤ j; omega) (by show j < j * 1 + 1; omega)
      have HI : Hid (ToG bool2 w w.heap.size ps j wr) := hI
      have HE : Hid (ps[j]? = some (m.testBit j)) := he
      have hh := hasB_any wr m j (by omega) hm
      clear hI he hs hf
      generalize m.testBit j = bb at *
      go_wp2_with fail
      refine hh.mono ?_
      clear hh
      rintro e2 u2 ⟨rfl, rfl⟩
      go_wp2_with (refine wpList_store1G Tryz.sizeOf4 (z := .bool bb) _ _ rfl rfl rfl rfl rfl rfl hs' hf' ?_)
      intro u L
      have HN : Hid (ToG bool2 w w.heap.size ps (j + 1) u) := HI.out.next HE.out (Below.refl _ _) (by
        show LaidG u2 u w.heap.size (j * 1) [.bool bb]
        rw [Nat.mul_one]; exact L)
      clear hs' hf' L
      go_wp2
      go_roundw
      case rel => exact ⟨j + 1, by omega, by go_num, HN.out⟩
      case measure => simp [intOf]; omega
    · obtain rfl : j = n := by omega
      have HI : Hid (ToG bool2 w w.heap.size ps j wr) := hI
      clear hI
      go_wp2
      go_ret
      have hI := HI.out
      have hB := hI.below
      have hS := hI.size
      have hl := HL.out
      rw [hl] at hI
      have hG := (hI.go (by unfold maxLen; omega))
      rw [← hl] at hG
      refine ⟨w.heap.size, rfl, Nat.le_refl _, hS, ?_, hB⟩
      rcases hG with ⟨h0, a, c, hv, hc⟩ | ⟨g, off, cap, hv, q1, q2, q3, q4, q5, q6⟩
      · rw [h0] at hl
        simp at hl
        subst hl
        exact .inl ⟨h0, _, 0, rfl, Nat.zero_le _⟩
      · have hv' := hv
        rw [← hl] at hv'
        simp only [Value.slice.injEq, Option.some.injEq, Addr.mk.injEq, and_true, true_and] at hv'
        obtain ⟨⟨rfl, rfl⟩, rfl⟩ := hv'
        exact .inr ⟨w.heap.size, 0, j, hv, q1, q2, Nat.le_refl _, Nat.lt_succ_self _, q5, q6⟩
end Go.Proofs.YtaoiookfmgpmkaaGreatDoor
