/-
  The program's parts of a chart's step: marksOk, canStep, bitsOn, holds.
-/
import Derived.Test.YtokphdpaghkakaaGreatM7
import Derived.Test.YtokphdpaghkakaaGreatBits
import Derived.Test.YtokphdpaghkakaaGreatChartImpl
import Derived.Test.YtokphdpaghkakaaGreatImplG
namespace Go.Proofs.YtokphdpaghkakaaGreat
open Go.ChangeShapes Go.WideShapes Go.ChangeAt Go.RowKit
set_option linter.unusedVariables false
set_option linter.unusedSimpArgs false
set_option maxRecDepth 100000

set_option maxHeartbeats 4000000 in
theorem iMarksOk_any (w : World) (lo1 hi1 : Nat) (sv : Int) (x y : Value) (vk : Value) (k : MarksD) (hK : MkR w lo1 hi1 vk k) :
    Calls Tryz.prog 79 #[.agg #[.int .i64 sv, x, y], vk] w fun e w' => e = .returned (.bool (decide ((k.on.length : Int) = sv) && decide (k.kept.length = 6))) ∧ Below w.heap.size w w' := by
  obtain ⟨R, hR⟩ : ∃ R, (decide ((k.on.length : Int) = sv) && decide (k.kept.length = 6)) = R := ⟨_, rfl⟩
  rw [hR]
  have HR : Hid ((decide ((k.on.length : Int) = sv) && decide (k.kept.length = 6)) = R) := hR
  clear hR
  obtain ⟨ka, kb, rfl, hka, hkb⟩ := hK
  obtain ⟨adk, capk, rfl, _, _⟩ := hka.shape
  obtain ⟨adk', capk', rfl, _, _⟩ := hkb.shape
  clear hka hkb
  go_enter Tryz.func79, Tryz.ntmps79
  go_wp2_with (refine wpList_boxG (vs := [.int .i64 sv, x, y]) rfl _ rfl rfl ?_)
  intro u1 g1 cv1 s1
  go_wp2_with (refine wpList_boxG (vs := [.slice adk k.on.length capk, .slice adk' k.kept.length capk']) rfl _ rfl rfl ?_)
  intro u2 g2 kv2 s2
  have cv2 := cv1.below g2 (by omega)
  have G2 := g1.trans (g2.mono (by omega))
  have c0 : u2.cell? ⟨w.heap.size, 0, none⟩ = some (.int .i64 sv) := cv2.c 0 _ rfl
  have d0 : u2.cell? ⟨w.heap.size + 1, 0, none⟩ = some (.slice adk k.on.length capk) := kv2.c 0 _ rfl
  have d1 : u2.cell? ⟨w.heap.size + 1, 1, none⟩ = some (.slice adk' k.kept.length capk') := kv2.c 1 _ rfl
  clear cv1 cv2 kv2 g1 g2
  by_cases h1 : (k.on.length : Int) = sv
  · have e1 : ((k.on.length : Int) == sv) = true := by simp [h1]
    by_cases h2 : k.kept.length = 6
    · have e2 : ((k.kept.length : Int) == 6) = true := by simp [h2]
      have HE : Hid (R = true) := by show R = _; rw [← HR.out]; simp [h1, h2]
      clear h1 h2
      go_wp2
      go_ret
      exact ⟨ret_bool HE.out.symm, G2⟩
    · have e2 : ((k.kept.length : Int) == 6) = false := by simp; omega
      have HE : Hid (R = false) := by show R = _; rw [← HR.out]; simp [h2]
      clear h1 h2
      go_wp2
      go_ret
      exact ⟨ret_bool HE.out.symm, G2⟩
  · have e1 : ((k.on.length : Int) == sv) = false := by simp [h1]
    have HE : Hid (R = false) := by show R = _; rw [← HR.out]; simp [h1]
    clear h1
    go_wp2
    go_ret
    exact ⟨ret_bool HE.out.symm, G2⟩

set_option maxHeartbeats 8000000 in
theorem iCanStep_any (w : World) (lo hi lo1 hi1 lo2 hi2 : Nat) (vc vk vm : Value) (c : ChartD) (k : MarksD) (m : MemD) (hC : HIc w lo hi vc c) (hK : MkR w lo1 hi1 vk k) (hM : MI w lo2 hi2 vm m) (hhi : hi ≤ w.heap.size) (hhi1 : hi1 ≤ w.heap.size) (hhi2 : hi2 ≤ w.heap.size) (hmany : c.many ≤ 1048576) :
    Calls Tryz.prog 43 #[vc, vk, vm] w fun e w' => e = .returned (.bool (stepOk c k m)) ∧ Below w.heap.size w w' := by
  obtain ⟨R, hR⟩ : ∃ R, stepOk c k m = R := ⟨_, rfl⟩
  rw [hR]
  have HR : Hid (stepOk c k m = R) := hR
  clear hR
  have HM : Hid (MI w lo2 hi2 vm m) := hM
  obtain ⟨ma, mb, mc, rfl, _, _, _⟩ := hM
  have HK : Hid (MkR w lo1 hi1 vk k) := hK
  obtain ⟨ka, kb, rfl, hka, hkb⟩ := hK
  obtain ⟨adk, capk, rfl, _, _⟩ := hka.shape
  obtain ⟨adk', capk', rfl, _, _⟩ := hkb.shape
  have HC : Hid (HIc w lo hi vc c) := hC
  obtain ⟨pa, ca, pb, cb, rfl⟩ := hC.shape
  clear hka hkb hC
  go_enter Tryz.func43, Tryz.ntmps43
  go_wp2_with (refine wpList_boxG (vs := [.int .i64 c.steps, .slice pa c.ts.length ca, .slice pb c.acts.length cb]) rfl _ rfl rfl ?_)
  intro u1 g1 cv1 s1
  go_wp2_with (refine wpList_boxG (vs := [.slice adk k.on.length capk, .slice adk' k.kept.length capk']) rfl _ rfl rfl ?_)
  intro u2 g2 kv2 s2
  have cv2 := cv1.below g2 (by omega)
  have G2 := g1.trans (g2.mono (by omega))
  clear cv1 g1 g2
  go_wp2_with (refine wpList_boxG (vs := [ma, mb, mc]) rfl _ rfl rfl ?_)
  intro u3 g3 mv3 s3
  have cv3 := cv2.below g3 (by omega)
  have kv3 := kv2.below g3 (by omega)
  have G3 := G2.trans (g3.mono (by omega))
  clear cv2 kv2 g3 G2
  have c0 : u3.cell? ⟨w.heap.size, 0, none⟩ = some (.int .i64 c.steps) := cv3.c 0 _ rfl
  have c1 : u3.cell? ⟨w.heap.size, 1, none⟩ = some (.slice pa c.ts.length ca) := cv3.c 1 _ rfl
  have c2 : u3.cell? ⟨w.heap.size, 2, none⟩ = some (.slice pb c.acts.length cb) := cv3.c 2 _ rfl
  go_wp2_with fail
  clear c0 c1 c2
  refine (iChartOk_any u3 lo hi _ c (HC.out.under G3 hhi) (by omega) hmany).mono ?_
  obtain ⟨r1, hr1⟩ : ∃ r, chartOk c = r := ⟨_, rfl⟩
  rw [hr1]
  rintro e4 u4 ⟨rfl, g4⟩
  have s4 := g4.size
  have cv4 := cv3.below g4 (by omega)
  have kv4 := kv3.below g4 (by omega)
  have mv4 := mv3.below g4 (by omega)
  have G4 := G3.trans (g4.mono (by omega))
  clear g4 cv3 kv3 mv3 G3
  cases r1
  · have HE : Hid (R = false) := by show _ = _; rw [← HR.out]; unfold stepOk; rw [hr1]; rfl
    clear hr1 cv4 kv4 mv4
    go_wp2
    go_ret
    exact ⟨ret_bool HE.out.symm, G4⟩
  have c0 : u4.cell? ⟨w.heap.size, 0, none⟩ = some (.int .i64 c.steps) := cv4.c 0 _ rfl
  have c1 : u4.cell? ⟨w.heap.size, 1, none⟩ = some (.slice pa c.ts.length ca) := cv4.c 1 _ rfl
  have c2 : u4.cell? ⟨w.heap.size, 2, none⟩ = some (.slice pb c.acts.length cb) := cv4.c 2 _ rfl
  have d0 : u4.cell? ⟨w.heap.size + 1, 0, none⟩ = some (.slice adk k.on.length capk) := kv4.c 0 _ rfl
  have d1 : u4.cell? ⟨w.heap.size + 1, 1, none⟩ = some (.slice adk' k.kept.length capk') := kv4.c 1 _ rfl
  have HR1 : Hid (chartOk c = true) := hr1
  clear hr1
  go_wp2_with fail
  clear c0 c1 c2 d0 d1
  refine (iMarksOk_any u4 lo1 hi1 c.steps _ _ _ k (HK.out.under G4 hhi1)).mono ?_
  obtain ⟨r2, hr2⟩ : ∃ r, (decide ((k.on.length : Int) = c.steps) && decide (k.kept.length = 6)) = r := ⟨_, rfl⟩
  rw [hr2]
  rintro e5 u5 ⟨rfl, g5⟩
  have s5 := g5.size
  have mv5 := mv4.below g5 (by omega)
  have G5 := G4.trans (g5.mono (by omega))
  clear g5 cv4 kv4 mv4 G4
  cases r2
  · have HE : Hid (R = false) := by show _ = _; rw [← HR.out]; unfold stepOk marksOk; rw [HR1.out, hr2]; rfl
    clear hr2 mv5
    go_wp2
    go_ret
    exact ⟨ret_bool HE.out.symm, G5⟩
  have m0 : u5.cell? ⟨w.heap.size + 1 + 1, 0, none⟩ = some ma := mv5.c 0 _ rfl
  have m1 : u5.cell? ⟨w.heap.size + 1 + 1, 1, none⟩ = some mb := mv5.c 1 _ rfl
  have m2 : u5.cell? ⟨w.heap.size + 1 + 1, 2, none⟩ = some mc := mv5.c 2 _ rfl
  have HR2 : Hid ((decide ((k.on.length : Int) = c.steps) && decide (k.kept.length = 6)) = true) := hr2
  clear hr2
  go_wp2_with fail
  clear m0 m1 m2
  refine (iMemOk_any u5 _ lo2 hi2 m (HM.out.below G5 hhi2) (by omega)).mono ?_
  obtain ⟨r3, hr3⟩ : ∃ r, memOk m = r := ⟨_, rfl⟩
  rw [hr3]
  rintro e6 u6 ⟨rfl, g6⟩
  have G6 := G5.trans (g6.mono (by omega))
  have HE : Hid (R = r3) := by show _ = _; rw [← HR.out]; unfold stepOk marksOk; rw [HR1.out, HR2.out, hr3]; rfl
  clear hr3 mv5 g6 G5
  cases r3
  · go_wp2
    go_ret
    exact ⟨ret_bool HE.out.symm, G6⟩
  · go_wp2
    go_ret
    exact ⟨ret_bool HE.out.symm, G6⟩

/-- Those of the first that are on, as bits. -/
def onTo (bs : List Bool) : Nat → Nat
  | 0 => 0
  | j + 1 => if (bs[j]?).getD false then onTo bs j ||| 2 ^ j else onTo bs j
theorem onTo_lt (bs : List Bool) (j : Nat) : onTo bs j < 2 ^ j := by
  induction j with
  | zero => exact Nat.one_pos
  | succ j ih =>
    rw [onTo]
    have h1 : 2 ^ j < 2 ^ (j + 1) := Nat.pow_lt_pow_right (by decide) (by omega)
    split
    · exact Nat.or_lt_two_pow (by omega) h1
    · omega
theorem onTo_bit (bs : List Bool) (j a : Nat) : (onTo bs j).testBit a = (decide (a < j) && (bs[a]?).getD false) := by
  induction j with
  | zero => simp [onTo]
  | succ j ih =>
    rw [onTo]
    by_cases e : a = j
    · subst e
      cases h : (bs[a]?).getD false <;> simp [ih, h]
    · have h1 : decide (a < j + 1) = decide (a < j) := by
        by_cases h : a < j
        · rw [decide_eq_true h, decide_eq_true (by omega)]
        · rw [decide_eq_false h, decide_eq_false (by omega)]
      rw [h1]
      split
      · rw [Nat.testBit_or, ih, Nat.testBit_two_pow_of_ne (by omega)]; simp
      · exact ih

set_option maxHeartbeats 4000000 in
theorem bitsOn_any (w : World) (lo hi : Nat) (v : Value) (xs : List Bool) (h : GR bool2 w lo hi v xs) (hhi : hi ≤ w.heap.size) (hx : xs.length ≤ 6) :
    Calls Tryz.prog 45 #[v] w fun e w' => e = .returned (.int .u8 ((onTo xs xs.length : Nat) : Int)) ∧ Below w.heap.size w w' := by
  obtain ⟨R, hR⟩ : ∃ R, onTo xs xs.length = R := ⟨_, rfl⟩
  rw [hR]
  have HR : Hid (onTo xs xs.length = R) := hR
  clear hR
  obtain ⟨ad, cap, rfl, h1, h2⟩ := h.shape
  unfold maxLen at h2
  have HX : Hid (GR bool2 w lo hi (.slice ad xs.length cap) xs) := h
  clear h
  go_enter Tryz.func45, Tryz.ntmps45
  go_wp2_with fail
  obtain ⟨u0, hu0, G0, c0, f0, s0⟩ : ∃ u0, w.alloc (.cells #[.int .u8 0] 83) = u0 ∧ Below w.heap.size w u0 ∧ u0.cell? ⟨w.heap.size, 0, none⟩ = some (.int .u8 ((onTo xs 0 : Nat) : Int)) ∧ u0.frozen? ⟨w.heap.size, 0, none⟩ = false ∧ w.heap.size < u0.heap.size :=
    ⟨_, rfl, (Below.refl _ _).alloc (Nat.le_refl _) _, World.cell?_alloc_new _ _ _ _, World.frozen?_alloc_new _ _ _ _, by simp⟩
  rw [hu0]
  clear hu0
  go_loopw [8] (fun i wr => ∃ j : Nat, j ≤ xs.length ∧ i = .int .i64 j ∧ Below w.heap.size w wr ∧ wr.cell? ⟨w.heap.size, 0, none⟩ = some (.int .u8 ((onTo xs j : Nat) : Int)) ∧ wr.frozen? ⟨w.heap.size, 0, none⟩ = false ∧ w.heap.size < wr.heap.size) (fun i _ => xs.length - (intOf i).toNat)
  case atStart => exact ⟨0, Nat.zero_le _, rfl, G0, c0, f0, s0⟩
  case round =>
    clear G0 c0 f0 s0
    obtain ⟨j, hj, rfl, hb, cb, fb, sb⟩ := hrel
    by_cases hlt : j < xs.length
    · obtain ⟨x, hx⟩ : ∃ x, xs[j]? = some x := ⟨xs[j], List.getElem?_eq_getElem hlt⟩
      obtain ⟨b, off, capx, hv, hb1, hb2, h5⟩ := HX.out.at_ hx
      simp only [Value.slice.injEq, true_and] at hv
      obtain ⟨rfl, rfl⟩ := hv
      have c1 : wr.cell? ⟨b, off + j, none⟩ = some (.bool x) := by
        have := (h5.below hb (by omega)) 0 (.bool x) rfl
        rwa [Nat.add_zero, show j * bool2.k = j from Nat.mul_one j] at this
      have hnx : onTo xs (j + 1) = if x then onTo xs j ||| 2 ^ j else onTo xs j := by rw [onTo, hx]; rfl
      have hl64 : onTo xs j < 64 := Nat.lt_of_lt_of_le (onTo_lt xs j) (Nat.pow_le_pow_right (by decide) (by omega : j ≤ 6))
      cases x
      · have HN : Hid (wr.cell? ⟨w.heap.size, 0, none⟩ = some (.int .u8 ((onTo xs (j + 1) : Nat) : Int)) ∧ Below w.heap.size w wr) := by rw [hnx]; exact ⟨cb, hb⟩
        clear hx h5 hnx cb hb hl64
        go_wp2
        go_roundw
        case rel => exact ⟨j + 1, by omega, by go_num, HN.out.2, HN.out.1, fb, sb⟩
        case measure => simp [intOf]; omega
      · have hadd := addB_any wr w.heap.size (onTo xs j) j (by omega) hl64 cb fb
        have hnx2 : onTo xs j ||| 2 ^ j = onTo xs (j + 1) := by rw [hnx]; rfl
        rw [hnx2] at hadd
        obtain ⟨M', hM'⟩ : ∃ M', onTo xs (j + 1) = M' := ⟨_, rfl⟩
        rw [hM'] at hadd
        have HN : Hid (Below w.heap.size w (wr.setCell ⟨w.heap.size, 0, none⟩ (.int .u8 (M' : Int))).drew ∧ (wr.setCell ⟨w.heap.size, 0, none⟩ (.int .u8 (M' : Int))).drew.cell? ⟨w.heap.size, 0, none⟩ = some (.int .u8 (M' : Int)) ∧ (wr.setCell ⟨w.heap.size, 0, none⟩ (.int .u8 (M' : Int))).drew.frozen? ⟨w.heap.size, 0, none⟩ = false ∧ w.heap.size < (wr.setCell ⟨w.heap.size, 0, none⟩ (.int .u8 (M' : Int))).drew.heap.size) :=
          ⟨(hb.setCell (p := ⟨w.heap.size, 0, none⟩) (Nat.le_refl _) _).drew, World.cell?_setCell_same _ _ _ cb, by show (wr.setCell ⟨w.heap.size, 0, none⟩ (.int .u8 (M' : Int))).frozen? _ = _; rw [World.frozen?_setCell]; exact fb, by show _ < (wr.setCell ⟨w.heap.size, 0, none⟩ (.int .u8 (M' : Int))).heap.size; rw [World.size_setCell]; exact sb⟩
        have HM : Hid (onTo xs (j + 1) = M') := hM'
        clear hx h5 hnx hnx2 cb fb hb sb hl64 hM'
        go_wp2_with fail
        refine hadd.mono ?_
        clear hadd c1
        rintro e2 u2 ⟨rfl, rfl⟩
        go_wp2
        go_roundw
        case rel => exact ⟨j + 1, by omega, by go_num, HN.out.1, by rw [HM.out]; exact HN.out.2.1, HN.out.2.2.1, HN.out.2.2.2⟩
        case measure => simp [intOf]; omega
    · obtain rfl : j = xs.length := by omega
      rw [HR.out] at cb
      go_wp2
      go_ret
      exact ⟨rfl, hb⟩
end Go.Proofs.YtokphdpaghkakaaGreat
