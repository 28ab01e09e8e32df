/-
  What a place's text is: the program's AddrText and the model's.
-/
import Derived.Test.YtoodhchphhhjfaaDoorAddrSpec
import Derived.Test.YtoodhchphhhjfaaDoorImplA
import Derived.Test.YtoodhchphhhjfaaDoorDag
import Derived.Laws.Concat
import Derived.Laws.BytesArg
namespace Go.Proofs.YtoodhchphhhjfaaDoor
open Go.ChangeShapes Go.WideShapes Go.ChangeAt Go.RowKit
set_option linter.unusedVariables false

/-- The letter of a kind. -/
def letterB (k : Int) : ByteArray := if k = 1 then ⟨#[105]⟩ else if k = 2 then ⟨#[111]⟩ else ⟨#[118]⟩

/-- A digit, as a text. -/
def digitB (t : Int) : ByteArray := if t = 0 then ⟨#[48]⟩ else if t = 1 then ⟨#[49]⟩ else if t = 2 then ⟨#[50]⟩ else if t = 3 then ⟨#[51]⟩ else if t = 4 then ⟨#[52]⟩ else ⟨#[53]⟩

/-- A place's text. -/
def addrText (a : AddrD) : ByteArray := if addrOk a then letterB a.kind ++ digitB a.at_ else ⟨#[]⟩

theorem six_cases {t : Int} (h1 : 0 ≤ t) (h2 : t < 6) : t = 0 ∨ t = 1 ∨ t = 2 ∨ t = 3 ∨ t = 4 ∨ t = 5 := by omega

theorem letterB_size (k : Int) : (letterB k).size = 1 := by
  unfold letterB
  split
  · rfl
  · split <;> rfl

theorem digitB_size (t : Int) : (digitB t).size = 1 := by
  unfold digitB
  repeat' split
  all_goals rfl

theorem text_add (k t : Int) (w : World) : (Op.stringOp .add (letterB k) (digitB t)).run Tryd.prog w = .ok (.string (letterB k ++ digitB t)) w :=
  run_string_add_sum w _ _ (by rw [letterB_size, digitB_size]; omega)

theorem conv_one (w : World) (n : Int) : (convert 43 9 (.slice (some ⟨w.heap.size, 0, none⟩) 1 1)).run Tryd.prog (w.alloc (.cells #[.int .u8 n] 5)) = .ok (.string ⟨#[UInt8.ofNat n.toNat]⟩) (w.alloc (.cells #[.int .u8 n] 5)) := by
  have h := run_convert_bytes_arg (P := Tryd.prog) (w.alloc (.cells #[.int .u8 n] 5)) 43 5 Tryd.underlying43 Tryd.underlying5 w.heap.size 0 1 1 [n] rfl (fun i hi => by
    obtain rfl : i = 0 := by omega
    rw [World.cell?_alloc_new]; rfl) 9 Tryd.underlying9
  exact h

theorem letter_any (w : World) (k : Int) (h1 : 1 ≤ k) (h2 : k ≤ 3) :
    Calls Tryd.prog 51 #[.int .i64 k] w fun e w' => e = .returned (.string (letterB k)) ∧ w' = w := by
  obtain rfl | rfl | rfl : k = 1 ∨ k = 2 ∨ k = 3 := by omega
  · go_enter Tryd.func51, Tryd.ntmps51
    go_wp2
    go_ret
    exact ⟨rfl, rfl⟩
  · go_enter Tryd.func51, Tryd.ntmps51
    go_wp2
    go_ret
    exact ⟨rfl, rfl⟩
  · go_enter Tryd.func51, Tryd.ntmps51
    go_wp2
    go_ret
    exact ⟨rfl, rfl⟩

set_option maxHeartbeats 1000000 in
theorem small_any (w : World) (t : Int) (h1 : 0 ≤ t) (h2 : t < 6) :
    Calls Tryd.prog 78 #[.int .i64 t] w fun e w' => e = .returned (.string (digitB t)) ∧ w' = w := by
  rcases six_cases h1 h2 with rfl | rfl | rfl | rfl | rfl | rfl
  · go_enter Tryd.func78, Tryd.ntmps78
    go_wp2
    go_ret
    exact ⟨rfl, rfl⟩
  · go_enter Tryd.func78, Tryd.ntmps78
    go_wp2
    go_ret
    exact ⟨rfl, rfl⟩
  · go_enter Tryd.func78, Tryd.ntmps78
    go_wp2
    go_ret
    exact ⟨rfl, rfl⟩
  · go_enter Tryd.func78, Tryd.ntmps78
    go_wp2
    go_ret
    exact ⟨rfl, rfl⟩
  · go_enter Tryd.func78, Tryd.ntmps78
    go_wp2
    go_ret
    exact ⟨rfl, rfl⟩
  · go_enter Tryd.func78, Tryd.ntmps78
    go_wp2
    go_ret
    exact ⟨rfl, rfl⟩

theorem formatInt_any (w : World) (t : Int) (h1 : 0 ≤ t) (h2 : t < 6) :
    Calls Tryd.prog 62 #[.int .i64 t, .int .i64 10] w fun e w' => e = .returned (.string (digitB t)) ∧ w' = w := by
  have h3 : t < 100 := by omega
  go_enter Tryd.func62, Tryd.ntmps62
  go_wp2_with (go_at_call 78; refine (small_any _ _ h1 h2).mono ?_; rintro e w' ⟨rfl, rfl⟩)
  go_ret
  exact ⟨rfl, rfl⟩

theorem itoa2_any (w : World) (t : Int) (h1 : 0 ≤ t) (h2 : t < 6) :
    Calls Tryd.prog 49 #[.int .i64 t] w fun e w' => e = .returned (.string (digitB t)) ∧ w' = w := by
  go_enter Tryd.func49, Tryd.ntmps49
  go_wp2_with (go_at_call 62; refine (formatInt_any _ _ h1 h2).mono ?_; rintro e w' ⟨rfl, rfl⟩)
  go_ret
  exact ⟨rfl, rfl⟩

theorem itoa_any (w : World) (t : Int) (h1 : 0 ≤ t) (h2 : t < 6) :
    Calls Tryd.prog 32 #[.int .i64 t] w fun e w' => e = .returned (.string (digitB t)) ∧ w' = w := by
  go_enter Tryd.func32, Tryd.ntmps32
  go_wp2_with (go_at_call 49; refine (itoa2_any _ _ h1 h2).mono ?_; rintro e w' ⟨rfl, rfl⟩)
  go_ret
  exact ⟨rfl, rfl⟩

set_option maxHeartbeats 1000000 in
theorem iAddrText_any (w : World) (k t : Int) :
    Calls Tryd.prog 33 #[AddrD.val ⟨k, t⟩] w fun e w' => e = .returned (.string (addrText ⟨k, t⟩)) ∧ Below w.heap.size w w' := by
  have ea : AddrD.val ⟨k, t⟩ = .agg #[.int .i64 k, .int .i64 t] := rfl
  rw [ea]
  clear ea
  have b1 := fun o => (Below.refl w.heap.size w).alloc (Nat.le_refl _) o
  go_enter Tryd.func33, Tryd.ntmps33
  go_wp2_with fail
  obtain ⟨u0, hu0, G0, c0, c1, S0⟩ : ∃ u0, w.alloc (.cells #[.int .i64 k, .int .i64 t] 35) = u0 ∧ Below w.heap.size w u0 ∧ u0.cell? ⟨w.heap.size, 0, none⟩ = some (.int .i64 k) ∧ u0.cell? ⟨w.heap.size, 1, none⟩ = some (.int .i64 t) ∧ u0.heap.size = w.heap.size + 1 :=
    ⟨_, rfl, b1 _, World.cell?_alloc_new _ _ _ _, World.cell?_alloc_new _ _ _ _, by simp⟩
  rw [hu0]
  clear hu0 b1
  refine (iAddrOk_any _ k t).mono ?_
  cases ho : addrOk ⟨k, t⟩ with
  | false =>
    rintro e1 u1 ⟨rfl, g1⟩
    have G1 := G0.trans (g1.mono (by omega))
    have et : addrText ⟨k, t⟩ = ⟨#[]⟩ := by unfold addrText; rw [ho]; rfl
    clear g1 G0 c0 c1
    go_wp2
    go_ret
    exact ⟨by rw [et]; rfl, G1⟩
  | true =>
    rintro e1 u1 ⟨rfl, g1⟩
    have G1 := G0.trans (g1.mono (by omega))
    have HT : Hid (addrText ⟨k, t⟩ = letterB k ++ digitB t) := by show _ = _; unfold addrText; rw [ho]; rfl
    obtain ⟨k1, k2, k3, k4⟩ := addrOk_bd ho
    simp only at k1 k2 k3 k4
    rw [← g1.cell (p := ⟨w.heap.size, 0, none⟩) (by show w.heap.size < u0.heap.size; omega)] at c0
    rw [← g1.cell (p := ⟨w.heap.size, 1, none⟩) (by show w.heap.size < u0.heap.size; omega)] at c1
    clear g1 G0
    have hl := fun W => letter_any W k k1 k2
    have hi := fun W => itoa_any W t k3 k4
    have ha := text_add k t
    go_wp2_with fail
    go_quiet (first | (go_at_call 51; exact Calls.quiet_of_same (hl _)) | (go_at_call 32; exact Calls.quiet_of_same (hi _)))
    go_wp2
    go_ret
    exact ⟨by rw [HT.out]; rfl, below_drewN G1 nq⟩

set_option maxHeartbeats 1000000 in
theorem l12Dec_small (w : World) (t : Int) (h1 : 0 ≤ t) (h2 : t < 6) :
    Calls Tryd.prog 26 #[.int .i64 t] w fun e w' => e = .returned (.string (digitB t)) ∧ Below w.heap.size w w' := by
  have b1 := fun o => (Below.refl w.heap.size w).alloc (Nat.le_refl _) o
  rcases six_cases h1 h2 with rfl | rfl | rfl | rfl | rfl | rfl
  · go_enter Tryd.func26, Tryd.ntmps26
    go_wp2
    go_loopw [0, 3] (fun n o wr => n = .int .i64 0 ∧ o = .string ⟨#[]⟩ ∧ wr = w) (fun _ _ _ => 0)
    case atStart => exact ⟨rfl, rfl, rfl⟩
    case round =>
      obtain ⟨rfl, rfl, rfl⟩ := hrel
      have hc := conv_one wr
      go_wp2
      go_ret
      exact ⟨rfl, b1 _⟩
  · go_enter Tryd.func26, Tryd.ntmps26
    go_wp2
    go_loopw [0, 3] (fun n o wr => n = .int .i64 1 ∧ o = .string ⟨#[]⟩ ∧ wr = w) (fun _ _ _ => 0)
    case atStart => exact ⟨rfl, rfl, rfl⟩
    case round =>
      obtain ⟨rfl, rfl, rfl⟩ := hrel
      have hc := conv_one wr
      go_wp2
      go_ret
      exact ⟨rfl, b1 _⟩
  · go_enter Tryd.func26, Tryd.ntmps26
    go_wp2
    go_loopw [0, 3] (fun n o wr => n = .int .i64 2 ∧ o = .string ⟨#[]⟩ ∧ wr = w) (fun _ _ _ => 0)
    case atStart => exact ⟨rfl, rfl, rfl⟩
    case round =>
      obtain ⟨rfl, rfl, rfl⟩ := hrel
      have hc := conv_one wr
      go_wp2
      go_ret
      exact ⟨rfl, b1 _⟩
  · go_enter Tryd.func26, Tryd.ntmps26
    go_wp2
    go_loopw [0, 3] (fun n o wr => n = .int .i64 3 ∧ o = .string ⟨#[]⟩ ∧ wr = w) (fun _ _ _ => 0)
    case atStart => exact ⟨rfl, rfl, rfl⟩
    case round =>
      obtain ⟨rfl, rfl, rfl⟩ := hrel
      have hc := conv_one wr
      go_wp2
      go_ret
      exact ⟨rfl, b1 _⟩
  · go_enter Tryd.func26, Tryd.ntmps26
    go_wp2
    go_loopw [0, 3] (fun n o wr => n = .int .i64 4 ∧ o = .string ⟨#[]⟩ ∧ wr = w) (fun _ _ _ => 0)
    case atStart => exact ⟨rfl, rfl, rfl⟩
    case round =>
      obtain ⟨rfl, rfl, rfl⟩ := hrel
      have hc := conv_one wr
      go_wp2
      go_ret
      exact ⟨rfl, b1 _⟩
  · go_enter Tryd.func26, Tryd.ntmps26
    go_wp2
    go_loopw [0, 3] (fun n o wr => n = .int .i64 5 ∧ o = .string ⟨#[]⟩ ∧ wr = w) (fun _ _ _ => 0)
    case atStart => exact ⟨rfl, rfl, rfl⟩
    case round =>
      obtain ⟨rfl, rfl, rfl⟩ := hrel
      have hc := conv_one wr
      go_wp2
      go_ret
      exact ⟨rfl, b1 _⟩

set_option maxHeartbeats 1000000 in
theorem sAddrText_any (w : World) (k t : Int) :
    Calls Tryd.prog 27 #[AddrD.val ⟨k, t⟩] w fun e w' => e = .returned (.string (addrText ⟨k, t⟩)) ∧ Below w.heap.size w w' := by
  have hok := sAddrOk_any
  have ea : AddrD.val ⟨k, t⟩ = .agg #[.int .i64 k, .int .i64 t] := rfl
  rw [ea]
  have b1 := fun o => (Below.refl w.heap.size w).alloc (Nat.le_refl _) o
  go_enter Tryd.func27, Tryd.ntmps27
  go_wp2_with fail
  obtain ⟨u0, hu0, G0, c0, c1, S0⟩ : ∃ u0, w.alloc (.cells #[.int .i64 k, .int .i64 t] 35) = u0 ∧ Below w.heap.size w u0 ∧ u0.cell? ⟨w.heap.size, 0, none⟩ = some (.int .i64 k) ∧ u0.cell? ⟨w.heap.size, 1, none⟩ = some (.int .i64 t) ∧ u0.heap.size = w.heap.size + 1 :=
    ⟨_, rfl, b1 _, World.cell?_alloc_new _ _ _ _, World.cell?_alloc_new _ _ _ _, by simp⟩
  rw [hu0]
  clear hu0 b1
  refine (hok _ ⟨k, t⟩).mono ?_
  clear ea hok
  cases ho : addrOk ⟨k, t⟩ with
  | false =>
    rintro e1 u1 ⟨rfl, g1⟩
    have G1 := G0.trans (g1.mono (by omega))
    have et : addrText ⟨k, t⟩ = ⟨#[]⟩ := by unfold addrText; rw [ho]; rfl
    clear g1 G0 c0 c1
    go_wp2
    go_ret
    exact ⟨by rw [et]; rfl, G1⟩
  | true =>
    rintro e1 u1 ⟨rfl, g1⟩
    have G1 := G0.trans (g1.mono (by omega))
    have HT : Hid (addrText ⟨k, t⟩ = letterB k ++ digitB t) := by show _ = _; unfold addrText; rw [ho]; rfl
    obtain ⟨k1, k2, k3, k4⟩ := addrOk_bd ho
    simp only at k1 k2 k3 k4
    have S1 := g1.size
    rw [← g1.cell (p := ⟨w.heap.size, 0, none⟩) (by show w.heap.size < u0.heap.size; omega)] at c0
    rw [← g1.cell (p := ⟨w.heap.size, 1, none⟩) (by show w.heap.size < u0.heap.size; omega)] at c1
    clear g1 G0
    go_wp2_with fail
    refine wp_region_dag (R := Grow) (Φ := fun j v u => match j with
        | 0 => ∃ B, v = .slice (some ⟨B, 0, none⟩) 4 4 ∧ B < u.heap.size ∧ u.cell? ⟨B, k.toNat, none⟩ = some (.string (letterB k))
        | 1 => v = .pointer (some ⟨w.heap.size, 0, none⟩)
        | 2 => v = .int .i64 k
        | 3 => ∃ B, v = .pointer (some ⟨B, k.toNat, none⟩) ∧ B < u.heap.size ∧ u.cell? ⟨B, k.toNat, none⟩ = some (.string (letterB k))
        | 4 => v = .string (letterB k)
        | 5 => v = .pointer (some ⟨w.heap.size, 1, none⟩)
        | 6 => v = .int .i64 t
        | 7 => v = .string (digitB t)
        | 8 => v = .string (letterB k ++ digitB t)
        | 9 => v = .string (letterB k ++ digitB t)
        | _ => True) (by kernel_rfl) (by kernel_rfl) (by kernel_rfl) (Below.refl _ _) grow_trans ?_ ?_ ?_
    · intro j v u u' hr
      match j with
      | 1 | 2 | 4 | 5 | 6 | 7 | 8 | 9 | _ + 10 => exact fun h => h
      | 0 | 3 => exact fun ⟨B, h1, h2, h3⟩ => ⟨B, h1, Nat.lt_of_lt_of_le h2 hr.size, by rw [hr.cell (p := ⟨B, k.toNat, none⟩) h2]; exact h3⟩
    · intro i o ho' a' u hf hR0 he K' hK
      have hR : Grow u1 u := (Below.drew (Below.refl _ _)).trans hR0
      have hsz' : a'.tmps.size = 15 := hf.size
      have putat : ∀ (t : Nat) (v : Value), t < a'.tmps.size → (a'.put (some t) v).tmps.getD t undef = v := fun t v ht => by
        show (a'.tmps.setIfInBounds t v).getD t undef = v
        simp [ht]
      have d0 : u.cell? ⟨w.heap.size, 0, none⟩ = some (.int .i64 k) := by rw [hR.cell (p := ⟨w.heap.size, 0, none⟩) (by show w.heap.size < u1.heap.size; omega)]; exact c0
      have d1 : u.cell? ⟨w.heap.size, 1, none⟩ = some (.int .i64 t) := by rw [hR.cell (p := ⟨w.heap.size, 1, none⟩) (by show w.heap.size < u1.heap.size; omega)]; exact c1
      rcases i with _ | _ | _ | _ | _ | _ | _ | _ | _ | _ | i
      · obtain rfl := Option.some.inj ho'
        clear he
        go_simp
        refine hK _ _ ((Below.refl _ _).alloc (Nat.le_refl _) _) ⟨u.heap.size, putat 6 _ (by omega), by simp, ?_⟩
        rw [World.cell?_alloc_new]
        obtain rfl | rfl | rfl : k = 1 ∨ k = 2 ∨ k = 3 := by omega
        · rfl
        · rfl
        · rfl
      · obtain rfl := Option.some.inj ho'
        have f1 : a'.tmps.getD 1 undef = .pointer (some ⟨w.heap.size, 0, none⟩) := hf.at_ 1 (by kernel_rfl)
        clear he
        go_simp
        exact hK _ _ (Below.refl _ _) (putat 7 _ (by omega))
      · obtain rfl := Option.some.inj ho'
        have f1 : a'.tmps.getD 7 undef = .pointer (some ⟨w.heap.size, 0, none⟩) := he _ (Array.mem_of_getElem? (i := 0) rfl) (by kernel_rfl) _ rfl
        clear he
        go_simp
        exact hK _ _ (Below.refl _ _) (putat 8 _ (by omega))
      · obtain rfl := Option.some.inj ho'
        obtain ⟨B, f1, hB, hc⟩ := he _ (Array.mem_of_getElem? (i := 0) rfl) (by kernel_rfl) _ rfl
        have f1 : a'.tmps.getD 6 undef = .slice (some ⟨B, 0, none⟩) 4 4 := f1
        have f2 : a'.tmps.getD 8 undef = .int .i64 k := he _ (Array.mem_of_getElem? (i := 1) rfl) (by kernel_rfl) _ rfl
        clear he
        obtain ⟨n, rfl⟩ : ∃ n : Nat, k = (n : Int) := ⟨k.toNat, by omega⟩
        have n4 : (n : Int) < 4 := by omega
        go_simp
        exact hK (.pointer (some ⟨B, n, none⟩)) _ (Below.refl _ _) ⟨B, putat 9 (.pointer (some ⟨B, n, none⟩)) (by omega), hB, hc⟩
      · obtain rfl := Option.some.inj ho'
        obtain ⟨B, f1, hB, hc⟩ := he _ (Array.mem_of_getElem? (i := 0) rfl) (by kernel_rfl) _ rfl
        have f1 : a'.tmps.getD 9 undef = .pointer (some ⟨B, k.toNat, none⟩) := f1
        clear he
        go_simp
        exact hK _ _ (Below.refl _ _) (putat 10 _ (by omega))
      · obtain rfl := Option.some.inj ho'
        have f1 : a'.tmps.getD 1 undef = .pointer (some ⟨w.heap.size, 0, none⟩) := hf.at_ 1 (by kernel_rfl)
        clear he
        go_simp
        exact hK _ _ (Below.refl _ _) (putat 11 _ (by omega))
      · obtain rfl := Option.some.inj ho'
        have f1 : a'.tmps.getD 11 undef = .pointer (some ⟨w.heap.size, 1, none⟩) := he _ (Array.mem_of_getElem? (i := 0) rfl) (by kernel_rfl) _ rfl
        clear he
        go_simp
        exact hK _ _ (Below.refl _ _) (putat 12 _ (by omega))
      · obtain rfl := Option.some.inj ho'
        have f1 : a'.tmps.getD 12 undef = .int .i64 t := he _ (Array.mem_of_getElem? (i := 0) rfl) (by kernel_rfl) _ rfl
        clear he
        go_simp
        refine (l12Dec_small _ t k3 k4).mono ?_
        rintro e u' ⟨rfl, hbu⟩
        exact hK _ _ hbu (putat 13 _ (by omega))
      · obtain rfl := Option.some.inj ho'
        have f1 : a'.tmps.getD 10 undef = .string (letterB k) := he _ (Array.mem_of_getElem? (i := 0) rfl) (by kernel_rfl) _ rfl
        have ha := text_add k t
        have f2 : a'.tmps.getD 13 undef = .string (digitB t) := he _ (Array.mem_of_getElem? (i := 1) rfl) (by kernel_rfl) _ rfl
        clear he
        go_simp
        exact hK _ _ (Below.refl _ _) (putat 14 _ (by omega))
      · obtain rfl := Option.some.inj ho'
        have f1 : a'.tmps.getD 14 undef = .string (letterB k ++ digitB t) := he _ (Array.mem_of_getElem? (i := 0) rfl) (by kernel_rfl) _ rfl
        clear he
        go_simp
        exact hK _ _ (Below.refl _ _) (putat 2 _ (by omega))
      · exact absurd ho' (by simp)
    · intro a' u hf hR0 hp
      have hR : Grow u1 u := (Below.drew (Below.refl _ _)).trans hR0
      have md : a'.defers = [] := hf.defers
      have m2 : a'.tmps.getD 2 undef = .string (letterB k ++ digitB t) := hp 9 _ rfl
      have G2 := G1.trans (hR.mono (by omega))
      obtain ⟨f, ea, hfv⟩ := act_lit a' 15 hf.size
      rw [← hfv] at m2
      rw [md] at ea
      simp only [List.range, List.range.loop, List.map_cons, List.map_nil, m2] at ea
      subst ea
      clear hfv hf hp hR0 hR md c0 c1
      go_wp2
      go_ret
      exact ⟨by rw [HT.out]; rfl, G2⟩
end Go.Proofs.YtoodhchphhhjfaaDoor
