/-
  What the program's CodeText answers: lines. (Written by our generator gen_codetext.py.)
-/
import Derived.Test.YtoodhchphhhjfaaDoorBuilderKit
import Derived.Test.YtoodhchphhhjfaaDoorDag
namespace Go.Proofs.YtoodhchphhhjfaaDoor
open Go.ChangeShapes Go.WideShapes Go.ChangeAt Go.RowKit
set_option linter.unusedVariables false

/-- The word of a kind of instruction. -/
def wordO (o : Int) : List UInt8 :=
  if o = 1 then [112, 117, 115, 104] else if o = 2 then [108, 111, 97, 100] else if o = 3 then [115, 116, 111, 114, 101] else if o = 5 then [110, 111, 116] else if o = 6 then [115, 107, 105, 112] else if o = 7 then [106, 117, 109, 112] else if o = 8 then [98, 97, 99, 107] else [110, 111, 110, 101]

/-- The program's table of words, as it stands. -/
def WordsAt (w : World) : Prop := ∀ k : Nat, k < 7 → w.cell? ⟨0, k, none⟩ = some (.string ⟨(wordL (k + 3)).toArray⟩)

/-- What the library's Itoa reads. -/
def TabAt (w : World) : Prop := Lib.TabIs Tryd.prog w "internal/strconv.uint64pow10" .u64 Lib.pow10Tab

set_option maxHeartbeats 1000000 in
theorem word_any (w : World) (o : Int) : Calls Tryd.prog 31 #[.int .i64 o] w fun e w' => e = .returned (.string ⟨(wordO o).toArray⟩) ∧ w' = w := by
  by_cases h1 : o = 1
  · subst h1
    go_enter Tryd.func31, Tryd.ntmps31
    go_wp2
    go_ret
    exact ⟨rfl, rfl⟩
  by_cases h2 : o = 2
  · subst h2
    go_enter Tryd.func31, Tryd.ntmps31
    go_wp2
    go_ret
    exact ⟨rfl, rfl⟩
  by_cases h3 : o = 3
  · subst h3
    go_enter Tryd.func31, Tryd.ntmps31
    go_wp2
    go_ret
    exact ⟨rfl, rfl⟩
  by_cases h5 : o = 5
  · subst h5
    go_enter Tryd.func31, Tryd.ntmps31
    go_wp2
    go_ret
    exact ⟨rfl, rfl⟩
  by_cases h6 : o = 6
  · subst h6
    go_enter Tryd.func31, Tryd.ntmps31
    go_wp2
    go_ret
    exact ⟨rfl, rfl⟩
  by_cases h7 : o = 7
  · subst h7
    go_enter Tryd.func31, Tryd.ntmps31
    go_wp2
    go_ret
    exact ⟨rfl, rfl⟩
  by_cases h8 : o = 8
  · subst h8
    go_enter Tryd.func31, Tryd.ntmps31
    go_wp2
    go_ret
    exact ⟨rfl, rfl⟩
  have HR : Hid (wordO o = [110, 111, 110, 101]) := by show wordO o = _; unfold wordO; rw [if_neg h1, if_neg h2, if_neg h3, if_neg h5, if_neg h6, if_neg h7, if_neg h8]
  have q1 : (o == 1) = false := by simp; omega
  have q2 : (o == 2) = false := by simp; omega
  have q3 : (o == 3) = false := by simp; omega
  have q5 : (o == 5) = false := by simp; omega
  have q6 : (o == 6) = false := by simp; omega
  have q7 : (o == 7) = false := by simp; omega
  have q8 : (o == 8) = false := by simp; omega
  rw [HR.out]
  clear h1 h2 h3 h5 h6 h7 h8
  go_enter Tryd.func31, Tryd.ntmps31
  go_wp2
  go_ret
  exact ⟨rfl, rfl⟩

theorem below_grown (w : World) (k : Nat) (os : Array Obj) : Below w.heap.size w (Go.Sort.grow (w.drewN k) os) :=
  ⟨rfl, rfl, rfl, by show w.heap.size ≤ (w.heap ++ os).size; rw [Array.size_append]; omega, fun j hj => by show (w.heap ++ os)[j]? = w.heap[j]?; rw [Array.getElem?_append_left hj]⟩

theorem var_kept {P : Program} {W W' : World} {n : String} {cs : Array Value} (h : W.var? P n = some cs) (b : Below W.heap.size W W') : W'.var? P n = some cs := by
  unfold World.var? at h ⊢
  obtain ⟨g, hg, h2⟩ := Option.bind_eq_some_iff.mp h
  have hlt : g < W.heap.size := by
    rcases Nat.lt_or_ge g W.heap.size with h' | h'
    · exact h'
    · rw [Array.getElem?_eq_none h'] at h2; simp at h2
  exact Option.bind_eq_some_iff.mpr ⟨g, hg, by rw [b.block g hlt]; exact h2⟩

theorem TabAt.kept {w w' : World} (h : TabAt w) (hb : Below w.heap.size w w') : TabAt w' := var_kept h hb

theorem WordsAt.lt {w : World} (h : WordsAt w) : 0 < w.heap.size := World.block_lt_of_cell? w _ (h 0 (by omega))

theorem WordsAt.kept {w w' : World} (h : WordsAt w) (hb : Below w.heap.size w w') : WordsAt w' := fun k hk => by
  rw [hb.cell (p := ⟨0, k, none⟩) h.lt]; exact h k hk

set_option maxHeartbeats 1000000 in
theorem twoWord_any (w : World) (n : Nat) (h3 : 3 ≤ n) (h9 : n ≤ 9) (hW : WordsAt w) :
    Calls Tryd.prog 35 #[.int .i64 n, .agg #[.int .i64 0, .int .i64 0, .int .i64 0, .int .i64 0, .slice none 0 0]] w fun e w' => e = .returned (.string ⟨(wordL n).toArray⟩) ∧ Below w.heap.size w w' := by
  have b1 := fun o => (Below.refl w.heap.size w).alloc (Nat.le_refl _) o
  have hlt := hW.lt
  obtain ⟨k, hk⟩ : ∃ k, n = k + 3 := ⟨n - 3, by omega⟩
  have c : ∀ o, (w.alloc o).cell? ⟨0, k, none⟩ = some (.string ⟨(wordL n).toArray⟩) := fun o => by
    rw [(b1 o).cell (p := ⟨0, k, none⟩) hlt, hk]; exact hW k (by omega)
  have hz : (n : Int) - 3 = (k : Int) := by omega
  have hk7 : (k : Int) < 7 := by omega
  generalize wordL n = wd at *
  clear hW h3 h9 hk
  go_enter Tryd.func35, Tryd.ntmps35
  go_wp2
  go_ret
  exact ⟨rfl, b1 _⟩

set_option maxHeartbeats 2000000 in
theorem iline1_any (w : World) (n ak t : Int) (h1 : -9223372036854775808 ≤ n) (h2 : n ≤ 9223372036854775807) (hT : TabAt w) :
    Calls Tryd.prog 17 #[.int .i64 1, .agg #[.int .i64 1, .int .i64 n, .int .i64 ak, .int .i64 t]] w fun e w' => e = .returned (.string ⟨([112, 117, 115, 104, 32] ++ Lib.itoa n).toArray⟩) ∧ Below w.heap.size w w' := by
  have b1 := fun o => (Below.refl w.heap.size w).alloc (Nat.le_refl _) o
  have hlen := Lib.itoa_length_le n h1 h2
  obtain ⟨L, hL⟩ : ∃ L, Lib.itoa n = L := ⟨_, rfl⟩
  have C : ∀ W, TabAt W → Calls Tryd.prog 32 #[.int .i64 n] W fun e w' => e = .returned (.string ⟨L.toArray⟩) ∧ Below W.heap.size W w' := fun W hW => by
    refine (Tryd.strconv_Itoa n h1 h2 W hW).mono ?_
    rintro e w' ⟨rfl, k, os, rfl⟩
    exact ⟨by rw [hL], below_grown _ _ _⟩
  rw [hL] at hlen ⊢
  have hW0 : ∀ W, Calls Tryd.prog 31 #[.int .i64 1] W fun e w' => e = .returned (.string ⟨[112, 117, 115, 104].toArray⟩) ∧ w' = W := fun W => word_any W 1
  have ha1 := fun W => run_string_add_lists (P := Tryd.prog) W [112, 117, 115, 104] [32] (by simp) (by simp)
  have ha2 := fun W => run_string_add_lists (P := Tryd.prog) W [112, 117, 115, 104, 32] L (by simp) (by omega)
  clear hL
  go_enter Tryd.func17, Tryd.ntmps17
  go_wp2_with fail
  obtain ⟨u0, hu0, G0, c1, c2, c3, S0⟩ : ∃ u0, w.alloc (.cells #[.int .i64 1, .int .i64 n, .int .i64 ak, .int .i64 t] 37) = u0 ∧ Below w.heap.size w u0 ∧ u0.cell? ⟨w.heap.size, 1, none⟩ = some (.int .i64 n) ∧ u0.cell? ⟨w.heap.size, 2, none⟩ = some (.int .i64 ak) ∧ u0.cell? ⟨w.heap.size, 3, none⟩ = some (.int .i64 t) ∧ u0.heap.size = w.heap.size + 1 :=
    ⟨_, rfl, b1 _, World.cell?_alloc_new _ _ _ _, World.cell?_alloc_new _ _ _ _, World.cell?_alloc_new _ _ _ _, by simp⟩
  rw [hu0]
  clear hu0
  refine wp_region_dag (R := Grow) (Φ := fun i v u => match i with
      | 0 => v = .int .i64 1
      | 1 => v = .string ⟨[112, 117, 115, 104].toArray⟩
      | 2 => v = .string ⟨[112, 117, 115, 104, 32].toArray⟩
      | 3 => v = .pointer (some ⟨w.heap.size, 1, none⟩)
      | 4 => v = .int .i64 n
      | 5 => v = .string ⟨L.toArray⟩
      | 6 => v = .string ⟨([112, 117, 115, 104, 32] ++ L).toArray⟩
      | 7 => v = .string ⟨([112, 117, 115, 104, 32] ++ L).toArray⟩
      | _ => True) (by kernel_rfl) (by kernel_rfl) (by kernel_rfl) (Below.refl _ _) grow_trans ?_ ?_ ?_
  · intro j v u u' hr
    match j with
    | 0 | 1 | 2 | 3 | 4 | 5 | 6 | 7 | _ + 8 => exact fun h => h
  · intro i o ho a u hf hR0 he K' hK
    have hR : Grow u0 u := (Below.drew (Below.refl _ _)).trans hR0
    have hRw : Below w.heap.size w u := G0.trans (hR.mono (by omega))
    have hsz' : a.tmps.size = 39 := hf.size
    have putat : ∀ (t : Nat) (v : Value), t < a.tmps.size → (a.put (some t) v).tmps.getD t undef = v := fun t v ht => by
      show (a.tmps.setIfInBounds t v).getD t undef = v
      simp [ht]
    rcases i with _ | _ | _ | _ | _ | _ | _ | _ | i
    · obtain rfl := Option.some.inj ho
      have f1 : a.tmps.getD 0 undef = .int .i64 1 := hf.at_ 0 (by kernel_rfl)
      clear he
      go_simp
      exact hK _ _ (Below.refl _ _) (putat 11 _ (by omega))
    · obtain rfl := Option.some.inj ho
      have f1 : a.tmps.getD 11 undef = .int .i64 1 := he _ (Array.mem_of_getElem? (i := 0) rfl) (by kernel_rfl) _ rfl
      clear he
      go_simp
      refine (hW0 _).mono ?_
      rintro e1 u' ⟨rfl, rfl⟩
      exact hK _ _ (Below.refl _ _) (putat 12 _ (by omega))
    · obtain rfl := Option.some.inj ho
      have f1 : a.tmps.getD 12 undef = .string ⟨[112, 117, 115, 104].toArray⟩ := he _ (Array.mem_of_getElem? (i := 0) rfl) (by kernel_rfl) _ rfl
      clear he
      go_simp
      exact hK _ _ (Below.refl _ _) (putat 13 _ (by omega))
    · obtain rfl := Option.some.inj ho
      have f1 : a.tmps.getD 3 undef = .pointer (some ⟨w.heap.size, 0, none⟩) := hf.at_ 3 (by kernel_rfl)
      clear he
      go_simp
      exact hK _ _ (Below.refl _ _) (putat 14 _ (by omega))
    · obtain rfl := Option.some.inj ho
      have f1 : a.tmps.getD 14 undef = .pointer (some ⟨w.heap.size, 1, none⟩) := he _ (Array.mem_of_getElem? (i := 0) rfl) (by kernel_rfl) _ rfl
      rw [← hR.cell (p := ⟨w.heap.size, 1, none⟩) (by show w.heap.size < _; omega)] at c1
      rw [← hR.cell (p := ⟨w.heap.size, 2, none⟩) (by show w.heap.size < _; omega)] at c2
      rw [← hR.cell (p := ⟨w.heap.size, 3, none⟩) (by show w.heap.size < _; omega)] at c3
      clear he
      go_simp
      exact hK _ _ (Below.refl _ _) (putat 15 _ (by omega))
    · obtain rfl := Option.some.inj ho
      have f1 : a.tmps.getD 15 undef = .int .i64 n := he _ (Array.mem_of_getElem? (i := 0) rfl) (by kernel_rfl) _ rfl
      clear he
      go_simp
      refine (C _ (hT.kept hRw)).mono ?_
      rintro e1 u' ⟨rfl, g1⟩
      exact hK _ _ g1 (putat 16 _ (by omega))
    · obtain rfl := Option.some.inj ho
      have f1 : a.tmps.getD 13 undef = .string ⟨[112, 117, 115, 104, 32].toArray⟩ := he _ (Array.mem_of_getElem? (i := 0) rfl) (by kernel_rfl) _ rfl
      have f2 : a.tmps.getD 16 undef = .string ⟨L.toArray⟩ := he _ (Array.mem_of_getElem? (i := 1) rfl) (by kernel_rfl) _ rfl
      clear he
      go_simp
      exact hK _ _ (Below.refl _ _) (putat 17 _ (by omega))
    · obtain rfl := Option.some.inj ho
      have f1 : a.tmps.getD 17 undef = .string ⟨([112, 117, 115, 104, 32] ++ L).toArray⟩ := he _ (Array.mem_of_getElem? (i := 0) rfl) (by kernel_rfl) _ rfl
      clear he
      go_simp
      exact hK _ _ (Below.refl _ _) (putat 4 _ (by omega))
    · exact absurd ho (by simp)
  · intro a u hf hR0 hp
    have hR : Grow u0 u := (Below.drew (Below.refl _ _)).trans hR0
    have hRw : Below w.heap.size w u := G0.trans (hR.mono (by omega))
    have md' : a.defers = [] := hf.defers
    have m2 : a.tmps.getD 4 undef = .string ⟨([112, 117, 115, 104, 32] ++ L).toArray⟩ := hp 7 _ rfl
    obtain ⟨f, ea, hfv⟩ := act_lit a 39 hf.size
    rw [← hfv] at m2
    rw [md'] at ea
    simp only [List.range, List.range.loop, List.map_cons, List.map_nil, m2] at ea
    subst ea
    clear hfv hf hp hR0 hR md' m2 G0 ha1 ha2
    go_wp2
    go_ret
    exact ⟨rfl, hRw⟩

set_option maxHeartbeats 2000000 in
theorem iline6_any (w : World) (n ak t : Int) (h1 : -9223372036854775808 ≤ n) (h2 : n ≤ 9223372036854775807) (hT : TabAt w) :
    Calls Tryd.prog 17 #[.int .i64 6, .agg #[.int .i64 6, .int .i64 n, .int .i64 ak, .int .i64 t]] w fun e w' => e = .returned (.string ⟨([115, 107, 105, 112, 32] ++ Lib.itoa n).toArray⟩) ∧ Below w.heap.size w w' := by
  have b1 := fun o => (Below.refl w.heap.size w).alloc (Nat.le_refl _) o
  have hlen := Lib.itoa_length_le n h1 h2
  obtain ⟨L, hL⟩ : ∃ L, Lib.itoa n = L := ⟨_, rfl⟩
  have C : ∀ W, TabAt W → Calls Tryd.prog 32 #[.int .i64 n] W fun e w' => e = .returned (.string ⟨L.toArray⟩) ∧ Below W.heap.size W w' := fun W hW => by
    refine (Tryd.strconv_Itoa n h1 h2 W hW).mono ?_
    rintro e w' ⟨rfl, k, os, rfl⟩
    exact ⟨by rw [hL], below_grown _ _ _⟩
  rw [hL] at hlen ⊢
  have hW0 : ∀ W, Calls Tryd.prog 31 #[.int .i64 6] W fun e w' => e = .returned (.string ⟨[115, 107, 105, 112].toArray⟩) ∧ w' = W := fun W => word_any W 6
  have ha1 := fun W => run_string_add_lists (P := Tryd.prog) W [115, 107, 105, 112] [32] (by simp) (by simp)
  have ha2 := fun W => run_string_add_lists (P := Tryd.prog) W [115, 107, 105, 112, 32] L (by simp) (by omega)
  clear hL
  go_enter Tryd.func17, Tryd.ntmps17
  go_wp2_with fail
  obtain ⟨u0, hu0, G0, c1, c2, c3, S0⟩ : ∃ u0, w.alloc (.cells #[.int .i64 6, .int .i64 n, .int .i64 ak, .int .i64 t] 37) = u0 ∧ Below w.heap.size w u0 ∧ u0.cell? ⟨w.heap.size, 1, none⟩ = some (.int .i64 n) ∧ u0.cell? ⟨w.heap.size, 2, none⟩ = some (.int .i64 ak) ∧ u0.cell? ⟨w.heap.size, 3, none⟩ = some (.int .i64 t) ∧ u0.heap.size = w.heap.size + 1 :=
    ⟨_, rfl, b1 _, World.cell?_alloc_new _ _ _ _, World.cell?_alloc_new _ _ _ _, World.cell?_alloc_new _ _ _ _, by simp⟩
  rw [hu0]
  clear hu0
  refine wp_region_dag (R := Grow) (Φ := fun i v u => match i with
      | 0 => v = .int .i64 6
      | 1 => v = .string ⟨[115, 107, 105, 112].toArray⟩
      | 2 => v = .string ⟨[115, 107, 105, 112, 32].toArray⟩
      | 3 => v = .pointer (some ⟨w.heap.size, 1, none⟩)
      | 4 => v = .int .i64 n
      | 5 => v = .string ⟨L.toArray⟩
      | 6 => v = .string ⟨([115, 107, 105, 112, 32] ++ L).toArray⟩
      | 7 => v = .string ⟨([115, 107, 105, 112, 32] ++ L).toArray⟩
      | _ => True) (by kernel_rfl) (by kernel_rfl) (by kernel_rfl) (Below.refl _ _) grow_trans ?_ ?_ ?_
  · intro j v u u' hr
    match j with
    | 0 | 1 | 2 | 3 | 4 | 5 | 6 | 7 | _ + 8 => exact fun h => h
  · intro i o ho a u hf hR0 he K' hK
    have hR : Grow u0 u := (Below.drew (Below.refl _ _)).trans hR0
    have hRw : Below w.heap.size w u := G0.trans (hR.mono (by omega))
    have hsz' : a.tmps.size = 39 := hf.size
    have putat : ∀ (t : Nat) (v : Value), t < a.tmps.size → (a.put (some t) v).tmps.getD t undef = v := fun t v ht => by
      show (a.tmps.setIfInBounds t v).getD t undef = v
      simp [ht]
    rcases i with _ | _ | _ | _ | _ | _ | _ | _ | i
    · obtain rfl := Option.some.inj ho
      have f1 : a.tmps.getD 0 undef = .int .i64 6 := hf.at_ 0 (by kernel_rfl)
      clear he
      go_simp
      exact hK _ _ (Below.refl _ _) (putat 11 _ (by omega))
    · obtain rfl := Option.some.inj ho
      have f1 : a.tmps.getD 11 undef = .int .i64 6 := he _ (Array.mem_of_getElem? (i := 0) rfl) (by kernel_rfl) _ rfl
      clear he
      go_simp
      refine (hW0 _).mono ?_
      rintro e1 u' ⟨rfl, rfl⟩
      exact hK _ _ (Below.refl _ _) (putat 12 _ (by omega))
    · obtain rfl := Option.some.inj ho
      have f1 : a.tmps.getD 12 undef = .string ⟨[115, 107, 105, 112].toArray⟩ := he _ (Array.mem_of_getElem? (i := 0) rfl) (by kernel_rfl) _ rfl
      clear he
      go_simp
      exact hK _ _ (Below.refl _ _) (putat 13 _ (by omega))
    · obtain rfl := Option.some.inj ho
      have f1 : a.tmps.getD 3 undef = .pointer (some ⟨w.heap.size, 0, none⟩) := hf.at_ 3 (by kernel_rfl)
      clear he
      go_simp
      exact hK _ _ (Below.refl _ _) (putat 14 _ (by omega))
    · obtain rfl := Option.some.inj ho
      have f1 : a.tmps.getD 14 undef = .pointer (some ⟨w.heap.size, 1, none⟩) := he _ (Array.mem_of_getElem? (i := 0) rfl) (by kernel_rfl) _ rfl
      rw [← hR.cell (p := ⟨w.heap.size, 1, none⟩) (by show w.heap.size < _; omega)] at c1
      rw [← hR.cell (p := ⟨w.heap.size, 2, none⟩) (by show w.heap.size < _; omega)] at c2
      rw [← hR.cell (p := ⟨w.heap.size, 3, none⟩) (by show w.heap.size < _; omega)] at c3
      clear he
      go_simp
      exact hK _ _ (Below.refl _ _) (putat 15 _ (by omega))
    · obtain rfl := Option.some.inj ho
      have f1 : a.tmps.getD 15 undef = .int .i64 n := he _ (Array.mem_of_getElem? (i := 0) rfl) (by kernel_rfl) _ rfl
      clear he
      go_simp
      refine (C _ (hT.kept hRw)).mono ?_
      rintro e1 u' ⟨rfl, g1⟩
      exact hK _ _ g1 (putat 16 _ (by omega))
    · obtain rfl := Option.some.inj ho
      have f1 : a.tmps.getD 13 undef = .string ⟨[115, 107, 105, 112, 32].toArray⟩ := he _ (Array.mem_of_getElem? (i := 0) rfl) (by kernel_rfl) _ rfl
      have f2 : a.tmps.getD 16 undef = .string ⟨L.toArray⟩ := he _ (Array.mem_of_getElem? (i := 1) rfl) (by kernel_rfl) _ rfl
      clear he
      go_simp
      exact hK _ _ (Below.refl _ _) (putat 17 _ (by omega))
    · obtain rfl := Option.some.inj ho
      have f1 : a.tmps.getD 17 undef = .string ⟨([115, 107, 105, 112, 32] ++ L).toArray⟩ := he _ (Array.mem_of_getElem? (i := 0) rfl) (by kernel_rfl) _ rfl
      clear he
      go_simp
      exact hK _ _ (Below.refl _ _) (putat 4 _ (by omega))
    · exact absurd ho (by simp)
  · intro a u hf hR0 hp
    have hR : Grow u0 u := (Below.drew (Below.refl _ _)).trans hR0
    have hRw : Below w.heap.size w u := G0.trans (hR.mono (by omega))
    have md' : a.defers = [] := hf.defers
    have m2 : a.tmps.getD 4 undef = .string ⟨([115, 107, 105, 112, 32] ++ L).toArray⟩ := hp 7 _ rfl
    obtain ⟨f, ea, hfv⟩ := act_lit a 39 hf.size
    rw [← hfv] at m2
    rw [md'] at ea
    simp only [List.range, List.range.loop, List.map_cons, List.map_nil, m2] at ea
    subst ea
    clear hfv hf hp hR0 hR md' m2 G0 ha1 ha2
    go_wp2
    go_ret
    exact ⟨rfl, hRw⟩

set_option maxHeartbeats 2000000 in
theorem iline7_any (w : World) (n ak t : Int) (h1 : -9223372036854775808 ≤ n) (h2 : n ≤ 9223372036854775807) (hT : TabAt w) :
    Calls Tryd.prog 17 #[.int .i64 7, .agg #[.int .i64 7, .int .i64 n, .int .i64 ak, .int .i64 t]] w fun e w' => e = .returned (.string ⟨([106, 117, 109, 112, 32] ++ Lib.itoa n).toArray⟩) ∧ Below w.heap.size w w' := by
  have b1 := fun o => (Below.refl w.heap.size w).alloc (Nat.le_refl _) o
  have hlen := Lib.itoa_length_le n h1 h2
  obtain ⟨L, hL⟩ : ∃ L, Lib.itoa n = L := ⟨_, rfl⟩
  have C : ∀ W, TabAt W → Calls Tryd.prog 32 #[.int .i64 n] W fun e w' => e = .returned (.string ⟨L.toArray⟩) ∧ Below W.heap.size W w' := fun W hW => by
    refine (Tryd.strconv_Itoa n h1 h2 W hW).mono ?_
    rintro e w' ⟨rfl, k, os, rfl⟩
    exact ⟨by rw [hL], below_grown _ _ _⟩
  rw [hL] at hlen ⊢
  have hW0 : ∀ W, Calls Tryd.prog 31 #[.int .i64 7] W fun e w' => e = .returned (.string ⟨[106, 117, 109, 112].toArray⟩) ∧ w' = W := fun W => word_any W 7
  have ha1 := fun W => run_string_add_lists (P := Tryd.prog) W [106, 117, 109, 112] [32] (by simp) (by simp)
  have ha2 := fun W => run_string_add_lists (P := Tryd.prog) W [106, 117, 109, 112, 32] L (by simp) (by omega)
  clear hL
  go_enter Tryd.func17, Tryd.ntmps17
  go_wp2_with fail
  obtain ⟨u0, hu0, G0, c1, c2, c3, S0⟩ : ∃ u0, w.alloc (.cells #[.int .i64 7, .int .i64 n, .int .i64 ak, .int .i64 t] 37) = u0 ∧ Below w.heap.size w u0 ∧ u0.cell? ⟨w.heap.size, 1, none⟩ = some (.int .i64 n) ∧ u0.cell? ⟨w.heap.size, 2, none⟩ = some (.int .i64 ak) ∧ u0.cell? ⟨w.heap.size, 3, none⟩ = some (.int .i64 t) ∧ u0.heap.size = w.heap.size + 1 :=
    ⟨_, rfl, b1 _, World.cell?_alloc_new _ _ _ _, World.cell?_alloc_new _ _ _ _, World.cell?_alloc_new _ _ _ _, by simp⟩
  rw [hu0]
  clear hu0
  refine wp_region_dag (R := Grow) (Φ := fun i v u => match i with
      | 0 => v = .int .i64 7
      | 1 => v = .string ⟨[106, 117, 109, 112].toArray⟩
      | 2 => v = .string ⟨[106, 117, 109, 112, 32].toArray⟩
      | 3 => v = .pointer (some ⟨w.heap.size, 1, none⟩)
      | 4 => v = .int .i64 n
      | 5 => v = .string ⟨L.toArray⟩
      | 6 => v = .string ⟨([106, 117, 109, 112, 32] ++ L).toArray⟩
      | 7 => v = .string ⟨([106, 117, 109, 112, 32] ++ L).toArray⟩
      | _ => True) (by kernel_rfl) (by kernel_rfl) (by kernel_rfl) (Below.refl _ _) grow_trans ?_ ?_ ?_
  · intro j v u u' hr
    match j with
    | 0 | 1 | 2 | 3 | 4 | 5 | 6 | 7 | _ + 8 => exact fun h => h
  · intro i o ho a u hf hR0 he K' hK
    have hR : Grow u0 u := (Below.drew (Below.refl _ _)).trans hR0
    have hRw : Below w.heap.size w u := G0.trans (hR.mono (by omega))
    have hsz' : a.tmps.size = 39 := hf.size
    have putat : ∀ (t : Nat) (v : Value), t < a.tmps.size → (a.put (some t) v).tmps.getD t undef = v := fun t v ht => by
      show (a.tmps.setIfInBounds t v).getD t undef = v
      simp [ht]
    rcases i with _ | _ | _ | _ | _ | _ | _ | _ | i
    · obtain rfl := Option.some.inj ho
      have f1 : a.tmps.getD 0 undef = .int .i64 7 := hf.at_ 0 (by kernel_rfl)
      clear he
      go_simp
      exact hK _ _ (Below.refl _ _) (putat 11 _ (by omega))
    · obtain rfl := Option.some.inj ho
      have f1 : a.tmps.getD 11 undef = .int .i64 7 := he _ (Array.mem_of_getElem? (i := 0) rfl) (by kernel_rfl) _ rfl
      clear he
      go_simp
      refine (hW0 _).mono ?_
      rintro e1 u' ⟨rfl, rfl⟩
      exact hK _ _ (Below.refl _ _) (putat 12 _ (by omega))
    · obtain rfl := Option.some.inj ho
      have f1 : a.tmps.getD 12 undef = .string ⟨[106, 117, 109, 112].toArray⟩ := he _ (Array.mem_of_getElem? (i := 0) rfl) (by kernel_rfl) _ rfl
      clear he
      go_simp
      exact hK _ _ (Below.refl _ _) (putat 13 _ (by omega))
    · obtain rfl := Option.some.inj ho
      have f1 : a.tmps.getD 3 undef = .pointer (some ⟨w.heap.size, 0, none⟩) := hf.at_ 3 (by kernel_rfl)
      clear he
      go_simp
      exact hK _ _ (Below.refl _ _) (putat 14 _ (by omega))
    · obtain rfl := Option.some.inj ho
      have f1 : a.tmps.getD 14 undef = .pointer (some ⟨w.heap.size, 1, none⟩) := he _ (Array.mem_of_getElem? (i := 0) rfl) (by kernel_rfl) _ rfl
      rw [← hR.cell (p := ⟨w.heap.size, 1, none⟩) (by show w.heap.size < _; omega)] at c1
      rw [← hR.cell (p := ⟨w.heap.size, 2, none⟩) (by show w.heap.size < _; omega)] at c2
      rw [← hR.cell (p := ⟨w.heap.size, 3, none⟩) (by show w.heap.size < _; omega)] at c3
      clear he
      go_simp
      exact hK _ _ (Below.refl _ _) (putat 15 _ (by omega))
    · obtain rfl := Option.some.inj ho
      have f1 : a.tmps.getD 15 undef = .int .i64 n := he _ (Array.mem_of_getElem? (i := 0) rfl) (by kernel_rfl) _ rfl
      clear he
      go_simp
      refine (C _ (hT.kept hRw)).mono ?_
      rintro e1 u' ⟨rfl, g1⟩
      exact hK _ _ g1 (putat 16 _ (by omega))
    · obtain rfl := Option.some.inj ho
      have f1 : a.tmps.getD 13 undef = .string ⟨[106, 117, 109, 112, 32].toArray⟩ := he _ (Array.mem_of_getElem? (i := 0) rfl) (by kernel_rfl) _ rfl
      have f2 : a.tmps.getD 16 undef = .string ⟨L.toArray⟩ := he _ (Array.mem_of_getElem? (i := 1) rfl) (by kernel_rfl) _ rfl
      clear he
      go_simp
      exact hK _ _ (Below.refl _ _) (putat 17 _ (by omega))
    · obtain rfl := Option.some.inj ho
      have f1 : a.tmps.getD 17 undef = .string ⟨([106, 117, 109, 112, 32] ++ L).toArray⟩ := he _ (Array.mem_of_getElem? (i := 0) rfl) (by kernel_rfl) _ rfl
      clear he
      go_simp
      exact hK _ _ (Below.refl _ _) (putat 4 _ (by omega))
    · exact absurd ho (by simp)
  · intro a u hf hR0 hp
    have hR : Grow u0 u := (Below.drew (Below.refl _ _)).trans hR0
    have hRw : Below w.heap.size w u := G0.trans (hR.mono (by omega))
    have md' : a.defers = [] := hf.defers
    have m2 : a.tmps.getD 4 undef = .string ⟨([106, 117, 109, 112, 32] ++ L).toArray⟩ := hp 7 _ rfl
    obtain ⟨f, ea, hfv⟩ := act_lit a 39 hf.size
    rw [← hfv] at m2
    rw [md'] at ea
    simp only [List.range, List.range.loop, List.map_cons, List.map_nil, m2] at ea
    subst ea
    clear hfv hf hp hR0 hR md' m2 G0 ha1 ha2
    go_wp2
    go_ret
    exact ⟨rfl, hRw⟩

set_option maxHeartbeats 2000000 in
theorem iline8_any (w : World) (n ak t : Int) (h1 : -9223372036854775808 ≤ n) (h2 : n ≤ 9223372036854775807) (hT : TabAt w) :
    Calls Tryd.prog 17 #[.int .i64 8, .agg #[.int .i64 8, .int .i64 n, .int .i64 ak, .int .i64 t]] w fun e w' => e = .returned (.string ⟨([98, 97, 99, 107, 32] ++ Lib.itoa n).toArray⟩) ∧ Below w.heap.size w w' := by
  have b1 := fun o => (Below.refl w.heap.size w).alloc (Nat.le_refl _) o
  have hlen := Lib.itoa_length_le n h1 h2
  obtain ⟨L, hL⟩ : ∃ L, Lib.itoa n = L := ⟨_, rfl⟩
  have C : ∀ W, TabAt W → Calls Tryd.prog 32 #[.int .i64 n] W fun e w' => e = .returned (.string ⟨L.toArray⟩) ∧ Below W.heap.size W w' := fun W hW => by
    refine (Tryd.strconv_Itoa n h1 h2 W hW).mono ?_
    rintro e w' ⟨rfl, k, os, rfl⟩
    exact ⟨by rw [hL], below_grown _ _ _⟩
  rw [hL] at hlen ⊢
  have hW0 : ∀ W, Calls Tryd.prog 31 #[.int .i64 8] W fun e w' => e = .returned (.string ⟨[98, 97, 99, 107].toArray⟩) ∧ w' = W := fun W => word_any W 8
  have ha1 := fun W => run_string_add_lists (P := Tryd.prog) W [98, 97, 99, 107] [32] (by simp) (by simp)
  have ha2 := fun W => run_string_add_lists (P := Tryd.prog) W [98, 97, 99, 107, 32] L (by simp) (by omega)
  clear hL
  go_enter Tryd.func17, Tryd.ntmps17
  go_wp2_with fail
  obtain ⟨u0, hu0, G0, c1, c2, c3, S0⟩ : ∃ u0, w.alloc (.cells #[.int .i64 8, .int .i64 n, .int .i64 ak, .int .i64 t] 37) = u0 ∧ Below w.heap.size w u0 ∧ u0.cell? ⟨w.heap.size, 1, none⟩ = some (.int .i64 n) ∧ u0.cell? ⟨w.heap.size, 2, none⟩ = some (.int .i64 ak) ∧ u0.cell? ⟨w.heap.size, 3, none⟩ = some (.int .i64 t) ∧ u0.heap.size = w.heap.size + 1 :=
    ⟨_, rfl, b1 _, World.cell?_alloc_new _ _ _ _, World.cell?_alloc_new _ _ _ _, World.cell?_alloc_new _ _ _ _, by simp⟩
  rw [hu0]
  clear hu0
  refine wp_region_dag (R := Grow) (Φ := fun i v u => match i with
      | 0 => v = .int .i64 8
      | 1 => v = .string ⟨[98, 97, 99, 107].toArray⟩
      | 2 => v = .string ⟨[98, 97, 99, 107, 32].toArray⟩
      | 3 => v = .pointer (some ⟨w.heap.size, 1, none⟩)
      | 4 => v = .int .i64 n
      | 5 => v = .string ⟨L.toArray⟩
      | 6 => v = .string ⟨([98, 97, 99, 107, 32] ++ L).toArray⟩
      | 7 => v = .string ⟨([98, 97, 99, 107, 32] ++ L).toArray⟩
      | _ => True) (by kernel_rfl) (by kernel_rfl) (by kernel_rfl) (Below.refl _ _) grow_trans ?_ ?_ ?_
  · intro j v u u' hr
    match j with
    | 0 | 1 | 2 | 3 | 4 | 5 | 6 | 7 | _ + 8 => exact fun h => h
  · intro i o ho a u hf hR0 he K' hK
    have hR : Grow u0 u := (Below.drew (Below.refl _ _)).trans hR0
    have hRw : Below w.heap.size w u := G0.trans (hR.mono (by omega))
    have hsz' : a.tmps.size = 39 := hf.size
    have putat : ∀ (t : Nat) (v : Value), t < a.tmps.size → (a.put (some t) v).tmps.getD t undef = v := fun t v ht => by
      show (a.tmps.setIfInBounds t v).getD t undef = v
      simp [ht]
    rcases i with _ | _ | _ | _ | _ | _ | _ | _ | i
    · obtain rfl := Option.some.inj ho
      have f1 : a.tmps.getD 0 undef = .int .i64 8 := hf.at_ 0 (by kernel_rfl)
      clear he
      go_simp
      exact hK _ _ (Below.refl _ _) (putat 11 _ (by omega))
    · obtain rfl := Option.some.inj ho
      have f1 : a.tmps.getD 11 undef = .int .i64 8 := he _ (Array.mem_of_getElem? (i := 0) rfl) (by kernel_rfl) _ rfl
      clear he
      go_simp
      refine (hW0 _).mono ?_
      rintro e1 u' ⟨rfl, rfl⟩
      exact hK _ _ (Below.refl _ _) (putat 12 _ (by omega))
    · obtain rfl := Option.some.inj ho
      have f1 : a.tmps.getD 12 undef = .string ⟨[98, 97, 99, 107].toArray⟩ := he _ (Array.mem_of_getElem? (i := 0) rfl) (by kernel_rfl) _ rfl
      clear he
      go_simp
      exact hK _ _ (Below.refl _ _) (putat 13 _ (by omega))
    · obtain rfl := Option.some.inj ho
      have f1 : a.tmps.getD 3 undef = .pointer (some ⟨w.heap.size, 0, none⟩) := hf.at_ 3 (by kernel_rfl)
      clear he
      go_simp
      exact hK _ _ (Below.refl _ _) (putat 14 _ (by omega))
    · obtain rfl := Option.some.inj ho
      have f1 : a.tmps.getD 14 undef = .pointer (some ⟨w.heap.size, 1, none⟩) := he _ (Array.mem_of_getElem? (i := 0) rfl) (by kernel_rfl) _ rfl
      rw [← hR.cell (p := ⟨w.heap.size, 1, none⟩) (by show w.heap.size < _; omega)] at c1
      rw [← hR.cell (p := ⟨w.heap.size, 2, none⟩) (by show w.heap.size < _; omega)] at c2
      rw [← hR.cell (p := ⟨w.heap.size, 3, none⟩) (by show w.heap.size < _; omega)] at c3
      clear he
      go_simp
      exact hK _ _ (Below.refl _ _) (putat 15 _ (by omega))
    · obtain rfl := Option.some.inj ho
      have f1 : a.tmps.getD 15 undef = .int .i64 n := he _ (Array.mem_of_getElem? (i := 0) rfl) (by kernel_rfl) _ rfl
      clear he
      go_simp
      refine (C _ (hT.kept hRw)).mono ?_
      rintro e1 u' ⟨rfl, g1⟩
      exact hK _ _ g1 (putat 16 _ (by omega))
    · obtain rfl := Option.some.inj ho
      have f1 : a.tmps.getD 13 undef = .string ⟨[98, 97, 99, 107, 32].toArray⟩ := he _ (Array.mem_of_getElem? (i := 0) rfl) (by kernel_rfl) _ rfl
      have f2 : a.tmps.getD 16 undef = .string ⟨L.toArray⟩ := he _ (Array.mem_of_getElem? (i := 1) rfl) (by kernel_rfl) _ rfl
      clear he
      go_simp
      exact hK _ _ (Below.refl _ _) (putat 17 _ (by omega))
    · obtain rfl := Option.some.inj ho
      have f1 : a.tmps.getD 17 undef = .string ⟨([98, 97, 99, 107, 32] ++ L).toArray⟩ := he _ (Array.mem_of_getElem? (i := 0) rfl) (by kernel_rfl) _ rfl
      clear he
      go_simp
      exact hK _ _ (Below.refl _ _) (putat 4 _ (by omega))
    · exact absurd ho (by simp)
  · intro a u hf hR0 hp
    have hR : Grow u0 u := (Below.drew (Below.refl _ _)).trans hR0
    have hRw : Below w.heap.size w u := G0.trans (hR.mono (by omega))
    have md' : a.defers = [] := hf.defers
    have m2 : a.tmps.getD 4 undef = .string ⟨([98, 97, 99, 107, 32] ++ L).toArray⟩ := hp 7 _ rfl
    obtain ⟨f, ea, hfv⟩ := act_lit a 39 hf.size
    rw [← hfv] at m2
    rw [md'] at ea
    simp only [List.range, List.range.loop, List.map_cons, List.map_nil, m2] at ea
    subst ea
    clear hfv hf hp hR0 hR md' m2 G0 ha1 ha2
    go_wp2
    go_ret
    exact ⟨rfl, hRw⟩

set_option maxHeartbeats 2000000 in
theorem iline2_any (w : World) (n ak t : Int)  :
    Calls Tryd.prog 17 #[.int .i64 2, .agg #[.int .i64 2, .int .i64 n, .int .i64 ak, .int .i64 t]] w fun e w' => e = .returned (.string ⟨([108, 111, 97, 100, 32] ++ (addrText ⟨ak, t⟩).data.toList).toArray⟩) ∧ Below w.heap.size w w' := by
  have b1 := fun o => (Below.refl w.heap.size w).alloc (Nat.le_refl _) o
  have hlen0 := addrText_size ⟨ak, t⟩
  obtain ⟨L, hL⟩ : ∃ L, (addrText ⟨ak, t⟩).data.toList = L := ⟨_, rfl⟩
  have hLB : addrText ⟨ak, t⟩ = ⟨L.toArray⟩ := by rw [← hL]
  have hlen : L.length ≤ 21 := by
    rw [hLB] at hlen0
    have : (⟨L.toArray⟩ : ByteArray).size = L.length := by show L.toArray.size = _; simp
    omega
  have C : ∀ W, Calls Tryd.prog 33 #[.agg #[.int .i64 ak, .int .i64 t]] W fun e w' => e = .returned (.string ⟨L.toArray⟩) ∧ Below W.heap.size W w' := fun W => by
    have := iAddrText_any W ak t
    rw [hLB] at this
    exact this
  rw [hL]
  clear hlen0 hLB
  have hW0 : ∀ W, Calls Tryd.prog 31 #[.int .i64 2] W fun e w' => e = .returned (.string ⟨[108, 111, 97, 100].toArray⟩) ∧ w' = W := fun W => word_any W 2
  have ha1 := fun W => run_string_add_lists (P := Tryd.prog) W [108, 111, 97, 100] [32] (by simp) (by simp)
  have ha2 := fun W => run_string_add_lists (P := Tryd.prog) W [108, 111, 97, 100, 32] L (by simp) (by omega)
  clear hL
  go_enter Tryd.func17, Tryd.ntmps17
  go_wp2_with fail
  obtain ⟨u0, hu0, G0, c1, c2, c3, S0⟩ : ∃ u0, w.alloc (.cells #[.int .i64 2, .int .i64 n, .int .i64 ak, .int .i64 t] 37) = u0 ∧ Below w.heap.size w u0 ∧ u0.cell? ⟨w.heap.size, 1, none⟩ = some (.int .i64 n) ∧ u0.cell? ⟨w.heap.size, 2, none⟩ = some (.int .i64 ak) ∧ u0.cell? ⟨w.heap.size, 3, none⟩ = some (.int .i64 t) ∧ u0.heap.size = w.heap.size + 1 :=
    ⟨_, rfl, b1 _, World.cell?_alloc_new _ _ _ _, World.cell?_alloc_new _ _ _ _, World.cell?_alloc_new _ _ _ _, by simp⟩
  rw [hu0]
  clear hu0
  refine wp_region_dag (R := Grow) (Φ := fun i v u => match i with
      | 0 => v = .int .i64 2
      | 1 => v = .string ⟨[108, 111, 97, 100].toArray⟩
      | 2 => v = .string ⟨[108, 111, 97, 100, 32].toArray⟩
      | 3 => v = .pointer (some ⟨w.heap.size, 2, none⟩)
      | 4 => v = .agg #[.int .i64 ak, .int .i64 t]
      | 5 => v = .string ⟨L.toArray⟩
      | 6 => v = .string ⟨([108, 111, 97, 100, 32] ++ L).toArray⟩
      | 7 => v = .string ⟨([108, 111, 97, 100, 32] ++ L).toArray⟩
      | _ => True) (by kernel_rfl) (by kernel_rfl) (by kernel_rfl) (Below.refl _ _) grow_trans ?_ ?_ ?_
  · intro j v u u' hr
    match j with
    | 0 | 1 | 2 | 3 | 4 | 5 | 6 | 7 | _ + 8 => exact fun h => h
  · intro i o ho a u hf hR0 he K' hK
    have hR : Grow u0 u := (Below.drew (Below.refl _ _)).trans hR0
    have hRw : Below w.heap.size w u := G0.trans (hR.mono (by omega))
    have hsz' : a.tmps.size = 39 := hf.size
    have putat : ∀ (t : Nat) (v : Value), t < a.tmps.size → (a.put (some t) v).tmps.getD t undef = v := fun t v ht => by
      show (a.tmps.setIfInBounds t v).getD t undef = v
      simp [ht]
    rcases i with _ | _ | _ | _ | _ | _ | _ | _ | i
    · obtain rfl := Option.some.inj ho
      have f1 : a.tmps.getD 0 undef = .int .i64 2 := hf.at_ 0 (by kernel_rfl)
      clear he
      go_simp
      exact hK _ _ (Below.refl _ _) (putat 21 _ (by omega))
    · obtain rfl := Option.some.inj ho
      have f1 : a.tmps.getD 21 undef = .int .i64 2 := he _ (Array.mem_of_getElem? (i := 0) rfl) (by kernel_rfl) _ rfl
      clear he
      go_simp
      refine (hW0 _).mono ?_
      rintro e1 u' ⟨rfl, rfl⟩
      exact hK _ _ (Below.refl _ _) (putat 22 _ (by omega))
    · obtain rfl := Option.some.inj ho
      have f1 : a.tmps.getD 22 undef = .string ⟨[108, 111, 97, 100].toArray⟩ := he _ (Array.mem_of_getElem? (i := 0) rfl) (by kernel_rfl) _ rfl
      clear he
      go_simp
      exact hK _ _ (Below.refl _ _) (putat 23 _ (by omega))
    · obtain rfl := Option.some.inj ho
      have f1 : a.tmps.getD 3 undef = .pointer (some ⟨w.heap.size, 0, none⟩) := hf.at_ 3 (by kernel_rfl)
      clear he
      go_simp
      exact hK _ _ (Below.refl _ _) (putat 24 _ (by omega))
    · obtain rfl := Option.some.inj ho
      have f1 : a.tmps.getD 24 undef = .pointer (some ⟨w.heap.size, 2, none⟩) := he _ (Array.mem_of_getElem? (i := 0) rfl) (by kernel_rfl) _ rfl
      rw [← hR.cell (p := ⟨w.heap.size, 1, none⟩) (by show w.heap.size < _; omega)] at c1
      rw [← hR.cell (p := ⟨w.heap.size, 2, none⟩) (by show w.heap.size < _; omega)] at c2
      rw [← hR.cell (p := ⟨w.heap.size, 3, none⟩) (by show w.heap.size < _; omega)] at c3
      clear he
      go_simp
      exact hK _ _ (Below.refl _ _) (putat 25 _ (by omega))
    · obtain rfl := Option.some.inj ho
      have f1 : a.tmps.getD 25 undef = .agg #[.int .i64 ak, .int .i64 t] := he _ (Array.mem_of_getElem? (i := 0) rfl) (by kernel_rfl) _ rfl
      clear he
      go_simp
      refine (C _).mono ?_
      rintro e1 u' ⟨rfl, g1⟩
      exact hK _ _ g1 (putat 26 _ (by omega))
    · obtain rfl := Option.some.inj ho
      have f1 : a.tmps.getD 23 undef = .string ⟨[108, 111, 97, 100, 32].toArray⟩ := he _ (Array.mem_of_getElem? (i := 0) rfl) (by kernel_rfl) _ rfl
      have f2 : a.tmps.getD 26 undef = .string ⟨L.toArray⟩ := he _ (Array.mem_of_getElem? (i := 1) rfl) (by kernel_rfl) _ rfl
      clear he
      go_simp
      exact hK _ _ (Below.refl _ _) (putat 27 _ (by omega))
    · obtain rfl := Option.some.inj ho
      have f1 : a.tmps.getD 27 undef = .string ⟨([108, 111, 97, 100, 32] ++ L).toArray⟩ := he _ (Array.mem_of_getElem? (i := 0) rfl) (by kernel_rfl) _ rfl
      clear he
      go_simp
      exact hK _ _ (Below.refl _ _) (putat 4 _ (by omega))
    · exact absurd ho (by simp)
  · intro a u hf hR0 hp
    have hR : Grow u0 u := (Below.drew (Below.refl _ _)).trans hR0
    have hRw : Below w.heap.size w u := G0.trans (hR.mono (by omega))
    have md' : a.defers = [] := hf.defers
    have m2 : a.tmps.getD 4 undef = .string ⟨([108, 111, 97, 100, 32] ++ L).toArray⟩ := hp 7 _ rfl
    obtain ⟨f, ea, hfv⟩ := act_lit a 39 hf.size
    rw [← hfv] at m2
    rw [md'] at ea
    simp only [List.range, List.range.loop, List.map_cons, List.map_nil, m2] at ea
    subst ea
    clear hfv hf hp hR0 hR md' m2 G0 ha1 ha2
    go_wp2
    go_ret
    exact ⟨rfl, hRw⟩

set_option maxHeartbeats 2000000 in
theorem iline3_any (w : World) (n ak t : Int)  :
    Calls Tryd.prog 17 #[.int .i64 3, .agg #[.int .i64 3, .int .i64 n, .int .i64 ak, .int .i64 t]] w fun e w' => e = .returned (.string ⟨([115, 116, 111, 114, 101, 32] ++ (addrText ⟨ak, t⟩).data.toList).toArray⟩) ∧ Below w.heap.size w w' := by
  have b1 := fun o => (Below.refl w.heap.size w).alloc (Nat.le_refl _) o
  have hlen0 := addrText_size ⟨ak, t⟩
  obtain ⟨L, hL⟩ : ∃ L, (addrText ⟨ak, t⟩).data.toList = L := ⟨_, rfl⟩
  have hLB : addrText ⟨ak, t⟩ = ⟨L.toArray⟩ := by rw [← hL]
  have hlen : L.length ≤ 21 := by
    rw [hLB] at hlen0
    have : (⟨L.toArray⟩ : ByteArray).size = L.length := by show L.toArray.size = _; simp
    omega
  have C : ∀ W, Calls Tryd.prog 33 #[.agg #[.int .i64 ak, .int .i64 t]] W fun e w' => e = .returned (.string ⟨L.toArray⟩) ∧ Below W.heap.size W w' := fun W => by
    have := iAddrText_any W ak t
    rw [hLB] at this
    exact this
  rw [hL]
  clear hlen0 hLB
  have hW0 : ∀ W, Calls Tryd.prog 31 #[.int .i64 3] W fun e w' => e = .returned (.string ⟨[115, 116, 111, 114, 101].toArray⟩) ∧ w' = W := fun W => word_any W 3
  have ha1 := fun W => run_string_add_lists (P := Tryd.prog) W [115, 116, 111, 114, 101] [32] (by simp) (by simp)
  have ha2 := fun W => run_string_add_lists (P := Tryd.prog) W [115, 116, 111, 114, 101, 32] L (by simp) (by omega)
  clear hL
  go_enter Tryd.func17, Tryd.ntmps17
  go_wp2_with fail
  obtain ⟨u0, hu0, G0, c1, c2, c3, S0⟩ : ∃ u0, w.alloc (.cells #[.int .i64 3, .int .i64 n, .int .i64 ak, .int .i64 t] 37) = u0 ∧ Below w.heap.size w u0 ∧ u0.cell? ⟨w.heap.size, 1, none⟩ = some (.int .i64 n) ∧ u0.cell? ⟨w.heap.size, 2, none⟩ = some (.int .i64 ak) ∧ u0.cell? ⟨w.heap.size, 3, none⟩ = some (.int .i64 t) ∧ u0.heap.size = w.heap.size + 1 :=
    ⟨_, rfl, b1 _, World.cell?_alloc_new _ _ _ _, World.cell?_alloc_new _ _ _ _, World.cell?_alloc_new _ _ _ _, by simp⟩
  rw [hu0]
  clear hu0
  refine wp_region_dag (R := Grow) (Φ := fun i v u => match i with
      | 0 => v = .int .i64 3
      | 1 => v = .string ⟨[115, 116, 111, 114, 101].toArray⟩
      | 2 => v = .string ⟨[115, 116, 111, 114, 101, 32].toArray⟩
      | 3 => v = .pointer (some ⟨w.heap.size, 2, none⟩)
      | 4 => v = .agg #[.int .i64 ak, .int .i64 t]
      | 5 => v = .string ⟨L.toArray⟩
      | 6 => v = .string ⟨([115, 116, 111, 114, 101, 32] ++ L).toArray⟩
      | 7 => v = .string ⟨([115, 116, 111, 114, 101, 32] ++ L).toArray⟩
      | _ => True) (by kernel_rfl) (by kernel_rfl) (by kernel_rfl) (Below.refl _ _) grow_trans ?_ ?_ ?_
  · intro j v u u' hr
    match j with
    | 0 | 1 | 2 | 3 | 4 | 5 | 6 | 7 | _ + 8 => exact fun h => h
  · intro i o ho a u hf hR0 he K' hK
    have hR : Grow u0 u := (Below.drew (Below.refl _ _)).trans hR0
    have hRw : Below w.heap.size w u := G0.trans (hR.mono (by omega))
    have hsz' : a.tmps.size = 39 := hf.size
    have putat : ∀ (t : Nat) (v : Value), t < a.tmps.size → (a.put (some t) v).tmps.getD t undef = v := fun t v ht => by
      show (a.tmps.setIfInBounds t v).getD t undef = v
      simp [ht]
    rcases i with _ | _ | _ | _ | _ | _ | _ | _ | i
    · obtain rfl := Option.some.inj ho
      have f1 : a.tmps.getD 0 undef = .int .i64 3 := hf.at_ 0 (by kernel_rfl)
      clear he
      go_simp
      exact hK _ _ (Below.refl _ _) (putat 21 _ (by omega))
    · obtain rfl := Option.some.inj ho
      have f1 : a.tmps.getD 21 undef = .int .i64 3 := he _ (Array.mem_of_getElem? (i := 0) rfl) (by kernel_rfl) _ rfl
      clear he
      go_simp
      refine (hW0 _).mono ?_
      rintro e1 u' ⟨rfl, rfl⟩
      exact hK _ _ (Below.refl _ _) (putat 22 _ (by omega))
    · obtain rfl := Option.some.inj ho
      have f1 : a.tmps.getD 22 undef = .string ⟨[115, 116, 111, 114, 101].toArray⟩ := he _ (Array.mem_of_getElem? (i := 0) rfl) (by kernel_rfl) _ rfl
      clear he
      go_simp
      exact hK _ _ (Below.refl _ _) (putat 23 _ (by omega))
    · obtain rfl := Option.some.inj ho
      have f1 : a.tmps.getD 3 undef = .pointer (some ⟨w.heap.size, 0, none⟩) := hf.at_ 3 (by kernel_rfl)
      clear he
      go_simp
      exact hK _ _ (Below.refl _ _) (putat 24 _ (by omega))
    · obtain rfl := Option.some.inj ho
      have f1 : a.tmps.getD 24 undef = .pointer (some ⟨w.heap.size, 2, none⟩) := he _ (Array.mem_of_getElem? (i := 0) rfl) (by kernel_rfl) _ rfl
      rw [← hR.cell (p := ⟨w.heap.size, 1, none⟩) (by show w.heap.size < _; omega)] at c1
      rw [← hR.cell (p := ⟨w.heap.size, 2, none⟩) (by show w.heap.size < _; omega)] at c2
      rw [← hR.cell (p := ⟨w.heap.size, 3, none⟩) (by show w.heap.size < _; omega)] at c3
      clear he
      go_simp
      exact hK _ _ (Below.refl _ _) (putat 25 _ (by omega))
    · obtain rfl := Option.some.inj ho
      have f1 : a.tmps.getD 25 undef = .agg #[.int .i64 ak, .int .i64 t] := he _ (Array.mem_of_getElem? (i := 0) rfl) (by kernel_rfl) _ rfl
      clear he
      go_simp
      refine (C _).mono ?_
      rintro e1 u' ⟨rfl, g1⟩
      exact hK _ _ g1 (putat 26 _ (by omega))
    · obtain rfl := Option.some.inj ho
      have f1 : a.tmps.getD 23 undef = .string ⟨[115, 116, 111, 114, 101, 32].toArray⟩ := he _ (Array.mem_of_getElem? (i := 0) rfl) (by kernel_rfl) _ rfl
      have f2 : a.tmps.getD 26 undef = .string ⟨L.toArray⟩ := he _ (Array.mem_of_getElem? (i := 1) rfl) (by kernel_rfl) _ rfl
      clear he
      go_simp
      exact hK _ _ (Below.refl _ _) (putat 27 _ (by omega))
    · obtain rfl := Option.some.inj ho
      have f1 : a.tmps.getD 27 undef = .string ⟨([115, 116, 111, 114, 101, 32] ++ L).toArray⟩ := he _ (Array.mem_of_getElem? (i := 0) rfl) (by kernel_rfl) _ rfl
      clear he
      go_simp
      exact hK _ _ (Below.refl _ _) (putat 4 _ (by omega))
    · exact absurd ho (by simp)
  · intro a u hf hR0 hp
    have hR : Grow u0 u := (Below.drew (Below.refl _ _)).trans hR0
    have hRw : Below w.heap.size w u := G0.trans (hR.mono (by omega))
    have md' : a.defers = [] := hf.defers
    have m2 : a.tmps.getD 4 undef = .string ⟨([115, 116, 111, 114, 101, 32] ++ L).toArray⟩ := hp 7 _ rfl
    obtain ⟨f, ea, hfv⟩ := act_lit a 39 hf.size
    rw [← hfv] at m2
    rw [md'] at ea
    simp only [List.range, List.range.loop, List.map_cons, List.map_nil, m2] at ea
    subst ea
    clear hfv hf hp hR0 hR md' m2 G0 ha1 ha2
    go_wp2
    go_ret
    exact ⟨rfl, hRw⟩

end Go.Proofs.YtoodhchphhhjfaaDoor
