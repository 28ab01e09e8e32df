/-
  What the program's CodeText answers. (Written by our generator gen_codetext.py.)
-/
import Derived.Test.YtoodhchphhhjfaaDoorCodeTextI
import Derived.Test.YtoodhchphhhjfaaDoorOpImpl
namespace Go.Proofs.YtoodhchphhhjfaaDoor
open Go.ChangeShapes Go.WideShapes Go.ChangeAt Go.RowKit
set_option linter.unusedVariables false

set_option maxHeartbeats 1000000 in
theorem iline5_any (w : World) (n ak t : Int) : Calls Tryd.prog 17 #[.int .i64 5, .agg #[.int .i64 5, .int .i64 n, .int .i64 ak, .int .i64 t]] w fun e w' => e = .returned (.string ⟨[110, 111, 116].toArray⟩) ∧ Below w.heap.size w w' := by
  have b1 := fun o => (Below.refl w.heap.size w).alloc (Nat.le_refl _) o
  have hW0 : ∀ W, Calls Tryd.prog 31 #[.int .i64 5] W fun e w' => e = .returned (.string ⟨[110, 111, 116].toArray⟩) ∧ w' = W := fun W => word_any W 5
  go_enter Tryd.func17, Tryd.ntmps17
  go_wp2_with (go_at_call 31; refine (hW0 _).mono ?_; rintro e w' ⟨rfl, rfl⟩)
  go_ret
  exact ⟨rfl, b1 _⟩

set_option maxHeartbeats 1000000 in
theorem ilineNone_any (w : World) (o n ak t : Int) (ho : o < 1 ∨ 8 < o) : Calls Tryd.prog 17 #[.int .i64 o, .agg #[.int .i64 o, .int .i64 n, .int .i64 ak, .int .i64 t]] w fun e w' => e = .returned (.string ⟨[110, 111, 110, 101].toArray⟩) ∧ Below w.heap.size w w' := by
  have b1 := fun o => (Below.refl w.heap.size w).alloc (Nat.le_refl _) o
  have hW0 : ∀ W, Calls Tryd.prog 31 #[.int .i64 o] W fun e w' => e = .returned (.string ⟨[110, 111, 110, 101].toArray⟩) ∧ w' = W := fun W => by
    have h := word_any W o
    have e : wordO o = [110, 111, 110, 101] := by unfold wordO; rw [if_neg (by omega), if_neg (by omega), if_neg (by omega), if_neg (by omega), if_neg (by omega), if_neg (by omega), if_neg (by omega)]
    rw [e] at h
    exact h
  have q1 : (o == 1) = false := by simp; omega
  have q2 : (o == 2) = false := by simp; omega
  have q3 : (o == 3) = false := by simp; omega
  have q4 : (o == 4) = false := by simp; omega
  have q5 : (o == 5) = false := by simp; omega
  have q6 : (o == 6) = false := by simp; omega
  have q7 : (o == 7) = false := by simp; omega
  have q8 : (o == 8) = false := by simp; omega
  clear ho
  go_enter Tryd.func17, Tryd.ntmps17
  go_wp2_with (go_at_call 31; refine (hW0 _).mono ?_; rintro e w' ⟨rfl, rfl⟩)
  go_ret
  exact ⟨rfl, b1 _⟩

set_option maxHeartbeats 1000000 in
theorem iline4n_any (w : World) (n ak t : Int) (hn : twoO n = false) : Calls Tryd.prog 17 #[.int .i64 4, .agg #[.int .i64 4, .int .i64 n, .int .i64 ak, .int .i64 t]] w fun e w' => e = .returned (.string ⟨[110, 111, 110, 101].toArray⟩) ∧ Below w.heap.size w w' := by
  have b1 := fun o => (Below.refl w.heap.size w).alloc (Nat.le_refl _) o
  have hW0 : ∀ W, Calls Tryd.prog 31 #[.int .i64 4] W fun e w' => e = .returned (.string ⟨[110, 111, 110, 101].toArray⟩) ∧ w' = W := fun W => word_any W 4
  have hI := fun W => isTwo_any W n
  rw [hn] at hI
  clear hn
  go_enter Tryd.func17, Tryd.ntmps17
  go_wp2_with (first
    | (go_at_call 34; refine (hI _).mono ?_; rintro e w' ⟨rfl, rfl⟩)
    | (go_at_call 31; refine (hW0 _).mono ?_; rintro e w' ⟨rfl, rfl⟩))
  go_ret
  exact ⟨rfl, b1 _⟩

set_option maxHeartbeats 1000000 in
theorem iline4_any (w : World) (n : Nat) (ak t : Int) (h3 : 3 ≤ n) (h9 : n ≤ 9) (hW : WordsAt w) : Calls Tryd.prog 17 #[.int .i64 4, .agg #[.int .i64 4, .int .i64 n, .int .i64 ak, .int .i64 t]] w fun e w' => e = .returned (.string ⟨(wordL n).toArray⟩) ∧ Below w.heap.size w w' := by
  have b1 := fun o => (Below.refl w.heap.size w).alloc (Nat.le_refl _) o
  have hI := fun W => isTwo_any W n
  have hn : twoO n = true := by unfold twoO; simp; omega
  rw [hn] at hI
  have hT := fun o => twoWord_any (w.alloc o) n h3 h9 (hW.kept (b1 o))
  clear hn hW h3 h9
  go_enter Tryd.func17, Tryd.ntmps17
  go_wp2_with (go_at_call 34; refine (hI _).mono ?_; rintro e w' ⟨rfl, rfl⟩)
  refine (hT _).mono ?_
  rintro e1 w1 ⟨rfl, g1⟩
  go_wp2
  go_ret
  exact ⟨rfl, below_two (b1 _) g1⟩

/-- The program's line. -/
theorem iLine_any (w : World) (p : InsD) (h : InN p) (hW : WordsAt w) (hT : TabAt w) : Calls Tryd.prog 17 #[.int .i64 p.op, p.val] w fun e w' => e = .returned (.string ⟨(lineL p).toArray⟩) ∧ Below w.heap.size w w' := by
  obtain ⟨o, n, ak, t⟩ := p
  have hv : InsD.val ⟨o, n, ak, t⟩ = .agg #[.int .i64 o, .int .i64 n, .int .i64 ak, .int .i64 t] := rfl
  rw [hv]
  unfold lineL
  simp only
  by_cases h1 : o = 1
  · rw [if_pos h1, h1]; exact iline1_any w n ak t h.1 h.2 hT
  rw [if_neg h1]
  by_cases h2 : o = 2
  · rw [if_pos h2, h2]; exact iline2_any w n ak t
  rw [if_neg h2]
  by_cases h3 : o = 3
  · rw [if_pos h3, h3]; exact iline3_any w n ak t
  rw [if_neg h3]
  by_cases h4 : o = 4
  · rw [if_pos h4, h4]
    by_cases hn : 3 ≤ n ∧ n ≤ 9
    · rw [if_pos hn]
      obtain ⟨k, rfl⟩ : ∃ k : Nat, n = (k : Int) := ⟨n.toNat, by omega⟩
      exact iline4_any w k ak t (by omega) (by omega) hW
    · rw [if_neg hn]; exact iline4n_any w n ak t (by unfold twoO; simp; omega)
  rw [if_neg h4]
  by_cases h5 : o = 5
  · rw [if_pos h5, h5]; exact iline5_any w n ak t
  rw [if_neg h5]
  by_cases h6 : o = 6
  · rw [if_pos h6, h6]; exact iline6_any w n ak t h.1 h.2 hT
  rw [if_neg h6]
  by_cases h7 : o = 7
  · rw [if_pos h7, h7]; exact iline7_any w n ak t h.1 h.2 hT
  rw [if_neg h7]
  by_cases h8 : o = 8
  · rw [if_pos h8, h8]; exact iline8_any w n ak t h.1 h.2 hT
  rw [if_neg h8]
  exact ilineNone_any w o n ak t (by omega)

set_option maxHeartbeats 4000000 in
set_option maxRecDepth 100000 in
theorem iCodeText_any (w : World) (lo hi : Nat) (v : Value) (ps : List InsD) (h : NR w lo hi v ps) (hhi : hi ≤ w.heap.size) (hN : ∀ p, p ∈ ps → InN p) (hl : ps.length ≤ 1048576) (hW : WordsAt w) (hT : TabAt w) :
    Calls Tryd.prog 8 #[v] w fun e w' => e = .returned (.string ⟨(codeTextL ps).toArray⟩) ∧ Below w.heap.size w w' := by
  obtain ⟨ad, cap, rfl, hc1, hc2⟩ := h.shape
  have HK : Hid (NR w lo hi (.slice ad ps.length cap) ps) := h
  have HN : Hid (∀ p, p ∈ ps → InN p) := hN
  have HW : Hid (WordsAt w) := hW
  have HT : Hid (TabAt w) := hT
  obtain ⟨B, hB⟩ : ∃ B, w.heap.size = B := ⟨_, rfl⟩
  have HB : Hid (w.heap.size = B) := hB
  obtain ⟨R, hR⟩ : ∃ R, codeTextL ps = R := ⟨_, rfl⟩
  rw [hR]
  have HR : Hid (codeTextL ps = R) := hR
  have H0 : Hid (Lib.IsBuilder 45 5 B B (Lib.byteCells (codeTextL (ps.take 0))) (w.alloc (.cells #[.pointer none, .slice none 0 0] 45)) ∧ Below B w (w.alloc (.cells #[.pointer none, .slice none 0 0] 45))) := by
    subst hB
    exact ⟨Lib.fresh_isBuilder _ _ w, (Below.refl _ _).alloc (Nat.le_refl _) _⟩
  have hmx : ps.length ≤ 9223372036854775807 := by omega
  clear h hN hR hc1 hc2 hW hT
  go_enter Tryd.func8, Tryd.ntmps8
  go_wp2_with fail
  try rw [hB]
  clear hB
  go_loopw [8] (fun i wr => ∃ j : Nat, j ≤ ps.length ∧ i = .int .i64 j ∧ Hid (Lib.IsBuilder 45 5 B B (Lib.byteCells (codeTextL (ps.take j))) wr) ∧ Hid (Below B w wr)) (fun i _ => ps.length - (intOf i).toNat)
  case atStart => exact ⟨0, Nat.zero_le _, rfl, H0.out.1, H0.out.2⟩
  case round =>
    clear H0
    obtain ⟨j, hj, rfl, hI, hb⟩ := hrel
    by_cases hlt : j < ps.length
    · obtain ⟨x, hx⟩ : ∃ x, ps[j]? = some x := ⟨ps[j], List.getElem?_eq_getElem hlt⟩
      have hnx := HN.out x (List.mem_of_getElem? hx)
      obtain ⟨b, off, cap', hv, hb1, hb2, h4⟩ := HK.out.at_ hx
      simp only [Value.slice.injEq, true_and] at hv
      obtain ⟨rfl, rfl⟩ := hv
      have HX : Hid (codeTextL (ps.take (j + 1)) = codeTextL (ps.take j) ++ lineL x ++ [10]) := codeText_take hx
      have hq : (codeTextL (ps.take j)).length ≤ 28311552 := by
        have := codeTextL_len (ps := ps.take j) fun p hp => HN.out p (List.mem_of_mem_take hp)
        rw [List.length_take] at this
        omega
      have hy := lineL_len hnx
      have hBw : Hid (B ≤ wr.heap.size) := by have h1 := hb.out.size; have h2 := HB.out; show B ≤ _; omega
      obtain ⟨c0, c1, c2, c3⟩ := h4.below hb.out (by have := HB.out; omega)
      have bb := (Below.refl wr.heap.size wr).alloc (Nat.le_refl _) (.cells #[.int .i64 x.op, .int .i64 x.n, .int .i64 x.ak, .int .i64 x.at_] 37)
      have hBB : Below w.heap.size w wr := by rw [HB.out]; exact hb.out
      have hH : Hid (Calls Tryd.prog 17 #[.int .i64 x.op, .agg #[.int .i64 x.op, .int .i64 x.n, .int .i64 x.ak, .int .i64 x.at_]] (wr.alloc (.cells #[.int .i64 x.op, .int .i64 x.n, .int .i64 x.ak, .int .i64 x.at_] 37)) fun e w' => e = .returned (.string ⟨(lineL x).toArray⟩) ∧ Below (wr.alloc (.cells #[.int .i64 x.op, .int .i64 x.n, .int .i64 x.ak, .int .i64 x.at_] 37)).heap.size (wr.alloc (.cells #[.int .i64 x.op, .int .i64 x.n, .int .i64 x.ak, .int .i64 x.at_] 37)) w') :=
        iLine_any _ x hnx ((HW.out.kept hBB).kept bb) ((HT.out.kept hBB).kept bb)
      have HI1 : Hid (Lib.IsBuilder 45 5 B B (Lib.byteCells (codeTextL (ps.take j))) (wr.alloc (.cells #[.int .i64 x.op, .int .i64 x.n, .int .i64 x.ak, .int .i64 x.at_] 37))) := IsBuilder.grew hI.out bb
      have HB1 : Hid (Below B w (wr.alloc (.cells #[.int .i64 x.op, .int .i64 x.n, .int .i64 x.ak, .int .i64 x.at_] 37)) ∧ B ≤ (wr.alloc (.cells #[.int .i64 x.op, .int .i64 x.n, .int .i64 x.ak, .int .i64 x.at_] 37)).heap.size) := ⟨hb.out.trans (bb.mono hBw.out), Nat.le_trans hBw.out bb.size⟩
      generalize codeTextL (ps.take j) = q at *
      generalize lineL x = y at *
      clear hx h4 hnx hb hI bb hBB hBw
      go_wp2_with fail
      refine hH.out.mono ?_
      rintro e1 w1 ⟨rfl, g1⟩
      have hI2 := IsBuilder.grew HI1.out g1
      have hB2 : Hid (B ≤ w1.heap.size) := Nat.le_trans HB1.out.2 g1.size
      have hb2 : Hid (Below B w w1) := HB1.out.1.trans (g1.mono HB1.out.2)
      clear g1 c0 c1 c2 c3 hH HI1 HB1
      have hI2 : Hid _ := hI2
      go_wp2_with fail
      refine (writeString_any B B _ ⟨y.toArray⟩ w1 hI2.out (by rw [Lib.byteCells_length]; have : (⟨y.toArray⟩ : ByteArray).size = y.length := by show y.toArray.size = _; simp
                                                               omega) hB2.out).mono ?_
      rintro e2 w2 ⟨rfl, h3, g3⟩
      have hI3 : Hid _ := h3
      have hB3 : Hid (B ≤ w2.heap.size) := Nat.le_trans hB2.out g3.size
      have hb3 : Hid (Below B w w2) := hb2.out.trans g3
      clear h3 g3 hI2 hB2 hb2
      go_wp2_with fail
      refine (writeString_any B B _ ⟨#[10]⟩ w2 (.inr hI3.out) (by rw [List.length_append, Lib.byteCells_length, Lib.strCells_length]; have : (⟨y.toArray⟩ : ByteArray).size = y.length := by show y.toArray.size = _; simp
                                                                  have : (⟨#[10]⟩ : ByteArray).size = 1 := rfl
                                                                  omega) hB3.out).mono ?_
      rintro e3 w3 ⟨rfl, h4, g4⟩
      have hI4 : Hid (Lib.IsBuilder 45 5 B B (Lib.byteCells (q ++ y ++ [10])) w3) := by
        have e1 : Lib.byteCells q ++ Lib.strCells ⟨y.toArray⟩ ++ Lib.strCells ⟨#[10]⟩ = Lib.byteCells (q ++ y ++ [10]) := by
          rw [Lib.strCells_eq, Lib.strCells_eq, ← Lib.byteCells_append, ← Lib.byteCells_append]
        rw [e1] at h4
        exact .inr h4
      have hb4 : Hid (Below B w w3) := hb3.out.trans g4
      clear h4 g4 hI3 hB3 hb3
      go_wp2
      go_roundw
      case rel => exact ⟨j + 1, by omega, by go_num, by rw [HX.out]; exact hI4, hb4⟩
      case measure => simp [intOf]; omega
    · obtain rfl : j = ps.length := by omega
      have HE : Hid (codeTextL (ps.take ps.length) = R) := by show _ = _; rw [List.take_length]; exact HR.out
      have hBw : Hid (B ≤ wr.heap.size) := by have h1 := hb.out.size; have h2 := HB.out; show B ≤ _; omega
      have hS : Hid (Calls Tryd.prog 18 #[.pointer (some ⟨B, 0, none⟩)] wr fun e w' => e = .returned (.string ⟨R.toArray⟩) ∧ Below B wr w') := by
        have := Tryd.Builder_String_any B B _ wr hI.out hBw.out
        rw [HE.out] at this
        exact this
      go_wp2_with fail
      refine hS.out.mono ?_
      rintro e1 w1 ⟨rfl, g1⟩
      have hb1 : Hid (Below B w w1) := hb.out.trans g1
      clear g1 hS hI hb
      go_wp2
      go_ret
      exact ⟨rfl, by first | (rw [HB.out]; exact hb1.out) | exact hb1.out⟩
end Go.Proofs.YtoodhchphhhjfaaDoor
