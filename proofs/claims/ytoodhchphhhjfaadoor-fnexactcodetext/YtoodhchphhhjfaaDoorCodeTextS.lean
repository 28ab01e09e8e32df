/-
  What the model's CodeText answers. (Written by our generator gen_codetext.py.)
-/
import Derived.Test.YtoodhchphhhjfaaDoorCodeTextData
import Derived.Test.YtoodhchphhhjfaaDoorDag
namespace Go.Proofs.YtoodhchphhhjfaaDoor
open Go.ChangeShapes Go.WideShapes Go.ChangeAt Go.RowKit
set_option linter.unusedVariables false

set_option maxHeartbeats 1000000 in
theorem line1_any (w : World) (n ak t : Int) (h1 : -9223372036854775808 ≤ n) (h2 : n ≤ 9223372036854775807) :
    Calls Tryd.prog 14 #[.agg #[.int .i64 1, .int .i64 n, .int .i64 ak, .int .i64 t]] w fun e w' => e = .returned (.string ⟨([112, 117, 115, 104, 32] ++ Lib.itoa n).toArray⟩) ∧ Below w.heap.size w w' := by
  have b1 := fun o => (Below.refl w.heap.size w).alloc (Nat.le_refl _) o
  have hlen := Lib.itoa_length_le n h1 h2
  have C := fun W => l12Dec_all W n h1 h2
  unfold decB at C
  generalize Lib.itoa n = L at *
  have ha := fun W => run_string_add_lists (P := Tryd.prog) W [112, 117, 115, 104, 32] L (by simp) (by omega)
  go_enter Tryd.func14, Tryd.ntmps14
  go_wp2_with fail
  refine (C _).mono ?_
  rintro e1 w1 ⟨rfl, g1⟩
  go_wp2
  go_ret
  refine ⟨?_, below_two (b1 _) g1⟩
  show Ending.returned (.string (⟨#[112, 117, 115, 104, 32]⟩ ++ ⟨L.toArray⟩)) = _
  rw [bytes_app]
  simp

set_option maxHeartbeats 1000000 in
theorem line6_any (w : World) (n ak t : Int) (h1 : -9223372036854775808 ≤ n) (h2 : n ≤ 9223372036854775807) :
    Calls Tryd.prog 14 #[.agg #[.int .i64 6, .int .i64 n, .int .i64 ak, .int .i64 t]] w fun e w' => e = .returned (.string ⟨([115, 107, 105, 112, 32] ++ Lib.itoa n).toArray⟩) ∧ Below w.heap.size w w' := by
  have b1 := fun o => (Below.refl w.heap.size w).alloc (Nat.le_refl _) o
  have hlen := Lib.itoa_length_le n h1 h2
  have C := fun W => l12Dec_all W n h1 h2
  unfold decB at C
  generalize Lib.itoa n = L at *
  have ha := fun W => run_string_add_lists (P := Tryd.prog) W [115, 107, 105, 112, 32] L (by simp) (by omega)
  go_enter Tryd.func14, Tryd.ntmps14
  go_wp2_with fail
  refine (C _).mono ?_
  rintro e1 w1 ⟨rfl, g1⟩
  go_wp2
  go_ret
  refine ⟨?_, below_two (b1 _) g1⟩
  show Ending.returned (.string (⟨#[115, 107, 105, 112, 32]⟩ ++ ⟨L.toArray⟩)) = _
  rw [bytes_app]
  simp

set_option maxHeartbeats 1000000 in
theorem line7_any (w : World) (n ak t : Int) (h1 : -9223372036854775808 ≤ n) (h2 : n ≤ 9223372036854775807) :
    Calls Tryd.prog 14 #[.agg #[.int .i64 7, .int .i64 n, .int .i64 ak, .int .i64 t]] w fun e w' => e = .returned (.string ⟨([106, 117, 109, 112, 32] ++ Lib.itoa n).toArray⟩) ∧ Below w.heap.size w w' := by
  have b1 := fun o => (Below.refl w.heap.size w).alloc (Nat.le_refl _) o
  have hlen := Lib.itoa_length_le n h1 h2
  have C := fun W => l12Dec_all W n h1 h2
  unfold decB at C
  generalize Lib.itoa n = L at *
  have ha := fun W => run_string_add_lists (P := Tryd.prog) W [106, 117, 109, 112, 32] L (by simp) (by omega)
  go_enter Tryd.func14, Tryd.ntmps14
  go_wp2_with fail
  refine (C _).mono ?_
  rintro e1 w1 ⟨rfl, g1⟩
  go_wp2
  go_ret
  refine ⟨?_, below_two (b1 _) g1⟩
  show Ending.returned (.string (⟨#[106, 117, 109, 112, 32]⟩ ++ ⟨L.toArray⟩)) = _
  rw [bytes_app]
  simp

set_option maxHeartbeats 1000000 in
theorem line8_any (w : World) (n ak t : Int) (h1 : -9223372036854775808 ≤ n) (h2 : n ≤ 9223372036854775807) :
    Calls Tryd.prog 14 #[.agg #[.int .i64 8, .int .i64 n, .int .i64 ak, .int .i64 t]] w fun e w' => e = .returned (.string ⟨([98, 97, 99, 107, 32] ++ Lib.itoa n).toArray⟩) ∧ Below w.heap.size w w' := by
  have b1 := fun o => (Below.refl w.heap.size w).alloc (Nat.le_refl _) o
  have hlen := Lib.itoa_length_le n h1 h2
  have C := fun W => l12Dec_all W n h1 h2
  unfold decB at C
  generalize Lib.itoa n = L at *
  have ha := fun W => run_string_add_lists (P := Tryd.prog) W [98, 97, 99, 107, 32] L (by simp) (by omega)
  go_enter Tryd.func14, Tryd.ntmps14
  go_wp2_with fail
  refine (C _).mono ?_
  rintro e1 w1 ⟨rfl, g1⟩
  go_wp2
  go_ret
  refine ⟨?_, below_two (b1 _) g1⟩
  show Ending.returned (.string (⟨#[98, 97, 99, 107, 32]⟩ ++ ⟨L.toArray⟩)) = _
  rw [bytes_app]
  simp

set_option maxHeartbeats 1000000 in
theorem line2_any (w : World) (n ak t : Int) :
    Calls Tryd.prog 14 #[.agg #[.int .i64 2, .int .i64 n, .int .i64 ak, .int .i64 t]] w fun e w' => e = .returned (.string ⟨([108, 111, 97, 100, 32] ++ (addrText ⟨ak, t⟩).data.toList).toArray⟩) ∧ Below w.heap.size w w' := by
  have b1 := fun o => (Below.refl w.heap.size w).alloc (Nat.le_refl _) o
  have hlen := addrText_size ⟨ak, t⟩
  have C := fun W => sAddrText_any W ak t
  have ea : AddrD.val ⟨ak, t⟩ = .agg #[.int .i64 ak, .int .i64 t] := rfl
  rw [ea] at C
  generalize addrText ⟨ak, t⟩ = L at *
  obtain ⟨R, hR⟩ : ∃ R : ByteArray, ⟨([108, 111, 97, 100, 32] ++ L.data.toList).toArray⟩ = R := ⟨_, rfl⟩
  rw [hR]
  have HR : Hid (_ = R) := hR
  have ha : ∀ W, (Op.stringOp .add (⟨#[108, 111, 97, 100, 32]⟩ : ByteArray) L).run Tryd.prog W = .ok (.string (⟨#[108, 111, 97, 100, 32]⟩ ++ L)) W := fun W => run_string_add_sum W _ _ (by have : (⟨#[108, 111, 97, 100, 32]⟩ : ByteArray).size = 5 := rfl; omega)
  clear hR
  go_enter Tryd.func14, Tryd.ntmps14
  go_wp2_with fail
  refine (C _).mono ?_
  rintro e1 w1 ⟨rfl, g1⟩
  go_wp2
  go_ret
  refine ⟨?_, below_two (b1 _) g1⟩
  rw [← HR.out, ← bytes_lit]
  rfl

set_option maxHeartbeats 1000000 in
theorem line3_any (w : World) (n ak t : Int) :
    Calls Tryd.prog 14 #[.agg #[.int .i64 3, .int .i64 n, .int .i64 ak, .int .i64 t]] w fun e w' => e = .returned (.string ⟨([115, 116, 111, 114, 101, 32] ++ (addrText ⟨ak, t⟩).data.toList).toArray⟩) ∧ Below w.heap.size w w' := by
  have b1 := fun o => (Below.refl w.heap.size w).alloc (Nat.le_refl _) o
  have hlen := addrText_size ⟨ak, t⟩
  have C := fun W => sAddrText_any W ak t
  have ea : AddrD.val ⟨ak, t⟩ = .agg #[.int .i64 ak, .int .i64 t] := rfl
  rw [ea] at C
  generalize addrText ⟨ak, t⟩ = L at *
  obtain ⟨R, hR⟩ : ∃ R : ByteArray, ⟨([115, 116, 111, 114, 101, 32] ++ L.data.toList).toArray⟩ = R := ⟨_, rfl⟩
  rw [hR]
  have HR : Hid (_ = R) := hR
  have ha : ∀ W, (Op.stringOp .add (⟨#[115, 116, 111, 114, 101, 32]⟩ : ByteArray) L).run Tryd.prog W = .ok (.string (⟨#[115, 116, 111, 114, 101, 32]⟩ ++ L)) W := fun W => run_string_add_sum W _ _ (by have : (⟨#[115, 116, 111, 114, 101, 32]⟩ : ByteArray).size = 6 := rfl; omega)
  clear hR
  go_enter Tryd.func14, Tryd.ntmps14
  go_wp2_with fail
  refine (C _).mono ?_
  rintro e1 w1 ⟨rfl, g1⟩
  go_wp2
  go_ret
  refine ⟨?_, below_two (b1 _) g1⟩
  rw [← HR.out, ← bytes_lit]
  rfl

set_option maxHeartbeats 1000000 in
theorem line5_any (w : World) (n ak t : Int) : Calls Tryd.prog 14 #[.agg #[.int .i64 5, .int .i64 n, .int .i64 ak, .int .i64 t]] w fun e w' => e = .returned (.string ⟨[110, 111, 116].toArray⟩) ∧ Below w.heap.size w w' := by
  have b1 := fun o => (Below.refl w.heap.size w).alloc (Nat.le_refl _) o
  go_enter Tryd.func14, Tryd.ntmps14
  go_wp2
  go_ret
  exact ⟨rfl, b1 _⟩

set_option maxHeartbeats 1000000 in
theorem lineNone_any (w : World) (o n ak t : Int) (ho : o < 1 ∨ 8 < o) : Calls Tryd.prog 14 #[.agg #[.int .i64 o, .int .i64 n, .int .i64 ak, .int .i64 t]] w fun e w' => e = .returned (.string ⟨[110, 111, 110, 101].toArray⟩) ∧ Below w.heap.size w w' := by
  have b1 := fun o => (Below.refl w.heap.size w).alloc (Nat.le_refl _) o
  have q1 : (o == 1) = false := by simp; omega
  have q2 : (o == 2) = false := by simp; omega
  have q3 : (o == 3) = false := by simp; omega
  have q4 : (o == 4) = false := by simp; omega
  have q5 : (o == 5) = false := by simp; omega
  have q6 : (o == 6) = false := by simp; omega
  have q7 : (o == 7) = false := by simp; omega
  have q8 : (o == 8) = false := by simp; omega
  clear ho
  go_enter Tryd.func14, Tryd.ntmps14
  go_wp2
  go_ret
  exact ⟨rfl, b1 _⟩

set_option maxHeartbeats 1000000 in
theorem line4n_any (w : World) (n ak t : Int) (hn : n < 3 ∨ 9 < n) : Calls Tryd.prog 14 #[.agg #[.int .i64 4, .int .i64 n, .int .i64 ak, .int .i64 t]] w fun e w' => e = .returned (.string ⟨[110, 111, 110, 101].toArray⟩) ∧ Below w.heap.size w w' := by
  have b1 := fun o => (Below.refl w.heap.size w).alloc (Nat.le_refl _) o
  rcases hn with h | h
  · have h' : ¬ (3 : Int) ≤ n := by omega
    go_enter Tryd.func14, Tryd.ntmps14
    go_wp2
    go_ret
    exact ⟨rfl, b1 _⟩
  · have h' : ¬ n ≤ (9 : Int) := by omega
    have h3 : (3 : Int) ≤ n := by omega
    go_enter Tryd.func14, Tryd.ntmps14
    go_wp2
    go_ret
    exact ⟨rfl, b1 _⟩

set_option maxHeartbeats 2000000 in
theorem line4_any (w : World) (n : Nat) (ak t : Int) (h3 : 3 ≤ n) (h9 : n ≤ 9) : Calls Tryd.prog 14 #[.agg #[.int .i64 4, .int .i64 n, .int .i64 ak, .int .i64 t]] w fun e w' => e = .returned (.string ⟨(wordL n).toArray⟩) ∧ Below w.heap.size w w' := by
  have b1 := fun o => (Below.refl w.heap.size w).alloc (Nat.le_refl _) o
  have h3' : (3 : Int) ≤ (n : Int) := by omega
  have h9' : (n : Int) ≤ (9 : Int) := by omega
  have hn11 : (n : Int) < 11 := by omega
  go_enter Tryd.func14, Tryd.ntmps14
  go_wp2_with fail
  obtain ⟨u0, hu0, G0, c1, S0⟩ : ∃ u0, w.alloc (.cells #[.int .i64 4, .int .i64 n, .int .i64 ak, .int .i64 t] 37) = u0 ∧ Below w.heap.size w u0 ∧ u0.cell? ⟨w.heap.size, 1, none⟩ = some (.int .i64 n) ∧ u0.heap.size = w.heap.size + 1 :=
    ⟨_, rfl, b1 _, World.cell?_alloc_new _ _ _ _, by simp⟩
  rw [hu0]
  clear hu0
  refine wp_region_dag (R := Grow) (Φ := fun i v u => match i with
      | 0 => ∃ B, v = .slice (some ⟨B, 0, none⟩) 11 11 ∧ B < u.heap.size ∧ u.cell? ⟨B, n, none⟩ = some (.string ⟨(wordL n).toArray⟩)
      | 1 => v = .pointer (some ⟨w.heap.size, 1, none⟩)
      | 2 => v = .int .i64 n
      | 3 => ∃ B, v = .pointer (some ⟨B, n, none⟩) ∧ B < u.heap.size ∧ u.cell? ⟨B, n, none⟩ = some (.string ⟨(wordL n).toArray⟩)
      | 4 => v = .string ⟨(wordL n).toArray⟩
      | 5 => v = .string ⟨(wordL n).toArray⟩
      | _ => True) (by kernel_rfl) (by kernel_rfl) (by kernel_rfl) (Below.refl _ _) grow_trans ?_ ?_ ?_
  · intro j v u u' hr
    match j with
    | 1 | 2 | 4 | 5 | _ + 6 => exact fun h => h
    | 0 | 3 => exact fun ⟨B, h1, h2, h3⟩ => ⟨B, h1, Nat.lt_of_lt_of_le h2 hr.size, by rw [hr.cell (p := ⟨B, n, none⟩) h2]; exact h3⟩
  · intro i o ho a u hf hR0 he K' hK
    have hR : Grow u0 u := (Below.drew (Below.refl _ _)).trans hR0
    have hsz' : a.tmps.size = 58 := hf.size
    have putat : ∀ (t : Nat) (v : Value), t < a.tmps.size → (a.put (some t) v).tmps.getD t undef = v := fun t v ht => by
      show (a.tmps.setIfInBounds t v).getD t undef = v
      simp [ht]
    rcases i with _ | _ | _ | _ | _ | _ | i
    · obtain rfl := Option.some.inj ho
      clear he
      go_simp
      refine (l3Words_any _).mono ?_
      rintro e1 u' ⟨rfl, hbu, hs, hc⟩
      exact hK _ _ hbu ⟨u.heap.size, putat 33 _ (by omega), hs, hc n (by omega)⟩
    · obtain rfl := Option.some.inj ho
      have f1 : a.tmps.getD 1 undef = .pointer (some ⟨w.heap.size, 0, none⟩) := hf.at_ 1 (by kernel_rfl)
      clear he
      go_simp
      exact hK _ _ (Below.refl _ _) (putat 34 _ (by omega))
    · obtain rfl := Option.some.inj ho
      have f1 : a.tmps.getD 34 undef = .pointer (some ⟨w.heap.size, 1, none⟩) := he _ (Array.mem_of_getElem? (i := 0) rfl) (by kernel_rfl) _ rfl
      have c1' : u.cell? ⟨w.heap.size, 1, none⟩ = some (.int .i64 n) := by rw [hR.cell (p := ⟨w.heap.size, 1, none⟩) (by show w.heap.size < _; omega)]; exact c1
      clear he
      go_simp
      exact hK _ _ (Below.refl _ _) (putat 35 _ (by omega))
    · obtain rfl := Option.some.inj ho
      obtain ⟨B, f1, hB, hc⟩ := he _ (Array.mem_of_getElem? (i := 0) rfl) (by kernel_rfl) _ rfl
      have f1 : a.tmps.getD 33 undef = .slice (some ⟨B, 0, none⟩) 11 11 := f1
      have f2 : a.tmps.getD 35 undef = .int .i64 n := he _ (Array.mem_of_getElem? (i := 1) rfl) (by kernel_rfl) _ rfl
      clear he
      go_simp
      exact hK (.pointer (some ⟨B, n, none⟩)) _ (Below.refl _ _) ⟨B, putat 36 (.pointer (some ⟨B, n, none⟩)) (by omega), hB, hc⟩
    · obtain rfl := Option.some.inj ho
      obtain ⟨B, f1, hB, hc⟩ := he _ (Array.mem_of_getElem? (i := 0) rfl) (by kernel_rfl) _ rfl
      have f1 : a.tmps.getD 36 undef = .pointer (some ⟨B, n, none⟩) := f1
      clear he
      go_simp
      exact hK _ _ (Below.refl _ _) (putat 37 _ (by omega))
    · obtain rfl := Option.some.inj ho
      have f1 : a.tmps.getD 37 undef = .string ⟨(wordL n).toArray⟩ := he _ (Array.mem_of_getElem? (i := 0) rfl) (by kernel_rfl) _ rfl
      clear he
      go_simp
      exact hK _ _ (Below.refl _ _) (putat 2 _ (by omega))
    · exact absurd ho (by simp)
  · intro a u hf hR0 hp
    have hR : Grow u0 u := (Below.drew (Below.refl _ _)).trans hR0
    have hRw : Below w.heap.size w u := G0.trans (hR.mono (by omega))
    have md' : a.defers = [] := hf.defers
    have m2 : a.tmps.getD 2 undef = .string ⟨(wordL n).toArray⟩ := hp 5 _ rfl
    obtain ⟨f, ea, hfv⟩ := act_lit a 58 hf.size
    rw [← hfv] at m2
    rw [md'] at ea
    simp only [List.range, List.range.loop, List.map_cons, List.map_nil, m2] at ea
    subst ea
    clear hfv hf hp hR0 hR md' m2 G0
    go_wp2
    go_ret
    exact ⟨rfl, hRw⟩

/-- The model's line. -/
theorem sLine_any (w : World) (p : InsD) (h : InN p) : Calls Tryd.prog 14 #[p.val] w fun e w' => e = .returned (.string ⟨(lineL p).toArray⟩) ∧ Below w.heap.size w w' := by
  obtain ⟨o, n, ak, t⟩ := p
  have hv : InsD.val ⟨o, n, ak, t⟩ = .agg #[.int .i64 o, .int .i64 n, .int .i64 ak, .int .i64 t] := rfl
  rw [hv]
  unfold lineL
  simp only
  by_cases h1 : o = 1
  · rw [if_pos h1, h1]; exact line1_any w n ak t h.1 h.2
  rw [if_neg h1]
  by_cases h2 : o = 2
  · rw [if_pos h2, h2]; exact line2_any w n ak t
  rw [if_neg h2]
  by_cases h3 : o = 3
  · rw [if_pos h3, h3]; exact line3_any w n ak t
  rw [if_neg h3]
  by_cases h4 : o = 4
  · rw [if_pos h4, h4]
    by_cases hn : 3 ≤ n ∧ n ≤ 9
    · rw [if_pos hn]
      obtain ⟨k, rfl⟩ : ∃ k : Nat, n = (k : Int) := ⟨n.toNat, by omega⟩
      exact line4_any w k ak t (by omega) (by omega)
    · rw [if_neg hn]; exact line4n_any w n ak t (by omega)
  rw [if_neg h4]
  by_cases h5 : o = 5
  · rw [if_pos h5, h5]; exact line5_any w n ak t
  rw [if_neg h5]
  by_cases h6 : o = 6
  · rw [if_pos h6, h6]; exact line6_any w n ak t h.1 h.2
  rw [if_neg h6]
  by_cases h7 : o = 7
  · rw [if_pos h7, h7]; exact line7_any w n ak t h.1 h.2
  rw [if_neg h7]
  by_cases h8 : o = 8
  · rw [if_pos h8, h8]; exact line8_any w n ak t h.1 h.2
  rw [if_neg h8]
  exact lineNone_any w o n ak t (by omega)

set_option maxHeartbeats 2000000 in
theorem sCodeText_any (w : World) (lo hi : Nat) (v : Value) (ps : List InsD) (h : NR w lo hi v ps) (hhi : hi ≤ w.heap.size) (hN : ∀ p, p ∈ ps → InN p) (hl : ps.length ≤ 1048576) :
    Calls Tryd.prog 6 #[v] w fun e w' => e = .returned (.string ⟨(codeTextL ps).toArray⟩) ∧ Below w.heap.size w w' := by
  obtain ⟨ad, cap, rfl, hc1, hc2⟩ := h.shape
  have HK : Hid (NR w lo hi (.slice ad ps.length cap) ps) := h
  have HN : Hid (∀ p, p ∈ ps → InN p) := hN
  obtain ⟨R, hR⟩ : ∃ R, codeTextL ps = R := ⟨_, rfl⟩
  rw [hR]
  have HR : Hid (codeTextL ps = R) := hR
  clear h hN hR hc1 hc2
  go_enter Tryd.func6, Tryd.ntmps6
  go_wp2_with fail
  go_loopw [3, 4] (fun q i wr => ∃ j : Nat, j ≤ ps.length ∧ q = .string ⟨(codeTextL (ps.take j)).toArray⟩ ∧ i = .int .i64 j ∧ Below w.heap.size w wr) (fun _ i _ => ps.length - (intOf i).toNat)
  case atStart => exact ⟨0, Nat.zero_le _, by simp [codeTextL], rfl, Below.refl _ _⟩
  case round =>
    obtain ⟨j, hj, rfl, rfl, hb⟩ := hrel
    by_cases hlt : j < ps.length
    · obtain ⟨x, hx⟩ : ∃ x, ps[j]? = some x := ⟨ps[j], List.getElem?_eq_getElem hlt⟩
      have hnx := HN.out x (List.mem_of_getElem? hx)
      obtain ⟨b, off, cap', hv, hb1, hb2, h4⟩ := HK.out.at_ hx
      simp only [Value.slice.injEq, true_and] at hv
      obtain ⟨rfl, rfl⟩ := hv
      have HX : Hid (codeTextL (ps.take (j + 1)) = codeTextL (ps.take j) ++ lineL x ++ [10]) := codeText_take hx
      have hq : (codeTextL (ps.take j)).length ≤ 28311552 := by
        have := codeTextL_len (ps := ps.take j) fun p hp => HN.out p (List.mem_of_mem_take hp)
        rw [List.length_take] at this
        omega
      have hy := lineL_len hnx
      have hH := sLine_any wr x hnx
      have hv : x.val = .agg #[.int .i64 x.op, .int .i64 x.n, .int .i64 x.ak, .int .i64 x.at_] := rfl
      rw [hv] at hH
      obtain ⟨c0, c1, c2, c3⟩ := h4.below hb (by omega)
      generalize codeTextL (ps.take j) = q at *
      generalize lineL x = y at *
      clear hx h4 hnx hv
      go_wp2_with fail
      refine hH.mono ?_
      rintro e1 w1 ⟨rfl, g1⟩
      have G1 := hb.trans (g1.mono hb.size)
      clear g1 c0 c1 c2 c3 hH hb
      go_wp2
      go_roundw
      case rel => exact ⟨j + 1, by omega, by rw [HX.out]; simp [bytes_app], by go_num, G1⟩
      case measure => simp [intOf]; omega
    · obtain rfl : j = ps.length := by omega
      have HE : Hid (codeTextL (ps.take ps.length) = R) := by show _ = _; rw [List.take_length]; exact HR.out
      go_wp2
      go_ret
      exact ⟨by rw [← HE.out]; rfl, hb⟩
end Go.Proofs.YtoodhchphhhjfaaDoor
