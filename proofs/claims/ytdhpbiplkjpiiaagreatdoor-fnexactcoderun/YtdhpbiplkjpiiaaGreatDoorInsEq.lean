/-
  eqIns, eqInsS: the laws' helpers that compare code. (Written by our generator gen_inseq.py.)
-/
import Derived.Test.YtdhpbiplkjpiiaaGreatDoorInsData
import Derived.Test.YtdhpbiplkjpiiaaGreatDoorDag
namespace Go.Proofs.YtdhpbiplkjpiiaaGreatDoor
open Go.ChangeShapes Go.WideShapes Go.ChangeAt Go.RowKit
set_option linter.unusedVariables false

theorem insD_eq {x y : InsD} : x = y ↔ x.op = y.op ∧ x.n = y.n ∧ (⟨x.ak, x.at_⟩ : AddrD) = ⟨y.ak, y.at_⟩ := by
  cases x; cases y; simp

set_option maxHeartbeats 1000000 in
theorem eqIns_any (w : World) (x y : InsD) :
    Calls Tryz.prog 29 #[x.val, y.val] w fun e w' => ∃ r : Bool, e = .returned (.bool r) ∧ (r = true ↔ x = y) ∧ Below w.heap.size w w' := by
  have b2 := fun o o' => ((Below.refl w.heap.size w).alloc (Nat.le_refl _) o).alloc (by simp) o'
  have hA := fun o o' => eqAddr_any ((w.alloc o).alloc o') ⟨x.ak, x.at_⟩ ⟨y.ak, y.at_⟩
  have HX : Hid (x = y ↔ x.op = y.op ∧ x.n = y.n ∧ (⟨x.ak, x.at_⟩ : AddrD) = ⟨y.ak, y.at_⟩) := insD_eq
  unfold InsD.val
  by_cases h1 : x.op = y.op
  · have h1' : (x.op == y.op) = true := by simpa using h1
    by_cases h2 : x.n = y.n
    · have h2' : (x.n == y.n) = true := by simpa using h2
      have HH : Hid (x.op = y.op ∧ x.n = y.n) := ⟨h1, h2⟩
      have n1 : (x.op != y.op) = false := by simpa using h1
      have n2 : (x.n != y.n) = false := by simpa using h2
      clear h1 h2 h1' h2'
      go_enter Tryz.func29, Tryz.ntmps29
      go_wp2_with fail
      refine (hA _ _).mono ?_
      rintro e1 u ⟨rfl, g1⟩
      have G1 := (b2 _ _).trans (g1.mono (by simp; omega))
      by_cases h3 : (⟨x.ak, x.at_⟩ : AddrD) = ⟨y.ak, y.at_⟩
      · rw [decide_eq_true h3]
        have HE : Hid (x = y) := HX.out.mpr ⟨HH.out.1, HH.out.2, h3⟩
        clear h3 g1 hA HX HH
        go_wp2
        go_ret
        exact ⟨true, rfl, by simp [HE.out], G1⟩
      · rw [decide_eq_false h3]
        have HE : Hid (false = true ↔ x = y) := by show false = true ↔ x = y; rw [HX.out]; simp [h3]
        clear h3 g1 hA HX HH
        go_wp2
        go_ret
        exact ⟨false, rfl, HE.out, G1⟩
    · have n1 : (x.op != y.op) = false := by simpa using h1
      have n2 : (x.n != y.n) = true := by simpa using h2
      have HE : Hid (false = true ↔ x = y) := by show false = true ↔ x = y; rw [HX.out]; simp [h2]
      clear h1 h2 hA HX h1'
      go_enter Tryz.func29, Tryz.ntmps29
      go_wp2
      go_ret
      exact ⟨false, rfl, HE.out, b2 _ _⟩
  · have n1 : (x.op != y.op) = true := by simpa using h1
    have HE : Hid (false = true ↔ x = y) := by show false = true ↔ x = y; rw [HX.out]; simp [h1]
    clear h1 hA HX
    go_enter Tryz.func29, Tryz.ntmps29
    go_wp2
    go_ret
    exact ⟨false, rfl, HE.out, b2 _ _⟩

theorem take_succ_ins {ps qs : List InsD} {k : Nat} {x y : InsD} (h : ps.take k = qs.take k) (hx : ps[k]? = some x) (hy : qs[k]? = some y) (e : x = y) : ps.take (k + 1) = qs.take (k + 1) := by
  rw [List.take_add_one, List.take_add_one, h, hx, hy, e]
theorem ne_at_ins {ps qs : List InsD} {k : Nat} {x y : InsD} (hx : ps[k]? = some x) (hy : qs[k]? = some y) (e : x ≠ y) : ps ≠ qs := by
  intro h; rw [h, hy] at hx; exact e (Option.some.inj hx).symm

set_option maxRecDepth 100000 in
set_option maxHeartbeats 4000000 in
theorem eqInsS_any (w : World) (lo hi lo' hi' : Nat) (va vb : Value) (ps qs : List InsD) (ha : NR w lo hi va ps) (hb' : NR w lo' hi' vb qs) (hhi : hi ≤ w.heap.size) (hhi' : hi' ≤ w.heap.size) :
    Calls Tryz.prog 11 #[va, vb] w fun e w' => ∃ r : Bool, e = .returned (.bool r) ∧ (r = true ↔ ps = qs) ∧ Below w.heap.size w w' := by
  obtain ⟨ad, cap, rfl, h1, h2⟩ := ha.shape
  obtain ⟨ad', cap', rfl, h1', h2'⟩ := hb'.shape
  have HK : Hid (NR w lo hi (.slice ad ps.length cap) ps ∧ NR w lo' hi' (.slice ad' qs.length cap') qs) := ⟨ha, hb'⟩
  clear ha hb'
  unfold maxLen at h2 h2'
  by_cases hl : ps.length = qs.length
  · have hl2 : ((ps.length : Int) != (qs.length : Int)) = false := by simp; omega
    have HL : Hid (ps.length = qs.length) := hl
    clear hl
    go_enter Tryz.func11, Tryz.ntmps11
    go_wp2_with fail
    go_loopw [5] (fun i wr => ∃ j : Nat, j ≤ ps.length ∧ i = .int .i64 j ∧ Below w.heap.size w wr ∧ ps.take j = qs.take j) (fun i _ => ps.length - (intOf i).toNat)
    case atStart => exact ⟨0, Nat.zero_le _, rfl, Below.refl _ _, rfl⟩
    case round =>
      obtain ⟨j, hj, rfl, hb, htk⟩ := hrel
      have HT : Hid (ps.take j = qs.take j) := htk
      clear htk
      have hsz := hb.size
      by_cases hlt : j < ps.length
      · obtain ⟨x, hx⟩ : ∃ x, ps[j]? = some x := ⟨ps[j], List.getElem?_eq_getElem hlt⟩
        have hlt' : j < qs.length := by have := HL.out; omega
        obtain ⟨y, hy⟩ : ∃ y, qs[j]? = some y := ⟨qs[j], List.getElem?_eq_getElem hlt'⟩
        obtain ⟨b, off, capx, hv, hb1, hb2, h5⟩ := HK.out.1.at_ hx
        obtain ⟨b', off', capy, hv', hb1', hb2', h5'⟩ := HK.out.2.at_ hy
        simp only [Value.slice.injEq, true_and] at hv hv'
        obtain ⟨rfl, rfl⟩ := hv
        obtain ⟨rfl, rfl⟩ := hv'
        have HX : Hid (ps[j]? = some x ∧ qs[j]? = some y) := ⟨hx, hy⟩
        clear hx hy
        go_wp2_with fail
        refine wp_region_dag (R := Grow) (Φ := fun i v u => match i with
            | 0 => v = .slice (some ⟨b, off, none⟩) ps.length cap
            | 1 => v = .int .i64 j
            | 2 => v = .pointer (some ⟨b, off + j * 4, none⟩)
            | 3 => v = .agg #[.int .i64 x.op, .int .i64 x.n, .int .i64 x.ak, .int .i64 x.at_]
            | 4 => v = .slice (some ⟨b', off', none⟩) qs.length cap'
            | 5 => v = .int .i64 j
            | 6 => v = .pointer (some ⟨b', off' + j * 4, none⟩)
            | 7 => v = .agg #[.int .i64 y.op, .int .i64 y.n, .int .i64 y.ak, .int .i64 y.at_]
            | 8 => ∃ r : Bool, v = .bool r ∧ (r = true ↔ x = y)
            | 9 => ∃ r : Bool, v = .bool (!r) ∧ (r = true ↔ x = y)
            | _ => True) (by kernel_rfl) (by kernel_rfl) (by kernel_rfl) (Below.refl _ _) grow_trans ?_ ?_ ?_
        · intro i v u u' hr
          match i with
          | 0 | 1 | 2 | 3 | 4 | 5 | 6 | 7 | _ + 10 => exact fun h => h
          | 8 => exact fun h => h
          | 9 => exact fun h => h
        · intro i o ho a u hf hR0 he K' hK
          have hR : Grow wr u := (Below.drew (Below.refl _ _)).trans hR0
          have hsz' : a.tmps.size = 27 := hf.size
          have hus : wr.heap.size ≤ u.heap.size := hR.size
          rcases i with _ | _ | _ | _ | _ | _ | _ | _ | _ | _ | i
          · obtain rfl := Option.some.inj ho
            have q0 : a.tmps.getD 0 undef = .slice (some ⟨b, off, none⟩) ps.length cap := hf.at_ 0 (by kernel_rfl)
            clear he
            go_simp
            exact hK _ _ (Below.refl _ _) (getD_put_self a 17 _ (by show _ < a.tmps.size; omega))
          · obtain rfl := Option.some.inj ho
            have q5 : a.tmps.getD 5 undef = .int .i64 j := hf.at_ 5 (by kernel_rfl)
            clear he
            go_simp
            exact hK _ _ (Below.refl _ _) (getD_put_self a 18 _ (by show _ < a.tmps.size; omega))
          · obtain rfl := Option.some.inj ho
            have q17 : a.tmps.getD 17 undef = .slice (some ⟨b, off, none⟩) ps.length cap := he _ (Array.mem_of_getElem? (i := 0) rfl) (by kernel_rfl) _ rfl
            have q18 : a.tmps.getD 18 undef = .int .i64 j := he _ (Array.mem_of_getElem? (i := 1) rfl) (by kernel_rfl) _ rfl
            clear he
            go_simp
            exact hK _ _ (Below.refl _ _) (getD_put_self a 19 _ (by show _ < a.tmps.size; omega))
          · obtain rfl := Option.some.inj ho
            have q19 : a.tmps.getD 19 undef = .pointer (some ⟨b, off + j * 4, none⟩) := he _ (Array.mem_of_getElem? (i := 0) rfl) (by kernel_rfl) _ rfl
            clear he
            obtain ⟨c0, c1, c2, c3⟩ := h5.kept ((hb.trans (hR.mono hsz)).block b (by omega))
            go_simp
            exact hK _ _ (Below.refl _ _) (getD_put_self a 20 _ (by show _ < a.tmps.size; omega))
          · obtain rfl := Option.some.inj ho
            have q1 : a.tmps.getD 1 undef = .slice (some ⟨b', off', none⟩) qs.length cap' := hf.at_ 1 (by kernel_rfl)
            clear he
            go_simp
            exact hK _ _ (Below.refl _ _) (getD_put_self a 21 _ (by show _ < a.tmps.size; omega))
          · obtain rfl := Option.some.inj ho
            have q5 : a.tmps.getD 5 undef = .int .i64 j := hf.at_ 5 (by kernel_rfl)
            clear he
            go_simp
            exact hK _ _ (Below.refl _ _) (getD_put_self a 22 _ (by show _ < a.tmps.size; omega))
          · obtain rfl := Option.some.inj ho
            have q21 : a.tmps.getD 21 undef = .slice (some ⟨b', off', none⟩) qs.length cap' := he _ (Array.mem_of_getElem? (i := 0) rfl) (by kernel_rfl) _ rfl
            have q22 : a.tmps.getD 22 undef = .int .i64 j := he _ (Array.mem_of_getElem? (i := 1) rfl) (by kernel_rfl) _ rfl
            clear he
            go_simp
            exact hK _ _ (Below.refl _ _) (getD_put_self a 23 _ (by show _ < a.tmps.size; omega))
          · obtain rfl := Option.some.inj ho
            have q23 : a.tmps.getD 23 undef = .pointer (some ⟨b', off' + j * 4, none⟩) := he _ (Array.mem_of_getElem? (i := 0) rfl) (by kernel_rfl) _ rfl
            clear he
            obtain ⟨c0, c1, c2, c3⟩ := h5'.kept ((hb.trans (hR.mono hsz)).block b' (by omega))
            go_simp
            exact hK _ _ (Below.refl _ _) (getD_put_self a 24 _ (by show _ < a.tmps.size; omega))
          · obtain rfl := Option.some.inj ho
            have q20 : a.tmps.getD 20 undef = .agg #[.int .i64 x.op, .int .i64 x.n, .int .i64 x.ak, .int .i64 x.at_] := he _ (Array.mem_of_getElem? (i := 0) rfl) (by kernel_rfl) _ rfl
            have q24 : a.tmps.getD 24 undef = .agg #[.int .i64 y.op, .int .i64 y.n, .int .i64 y.ak, .int .i64 y.at_] := he _ (Array.mem_of_getElem? (i := 1) rfl) (by kernel_rfl) _ rfl
            clear he
            have hC := eqIns_any u x y
            unfold InsD.val at hC
            go_simp
            refine hC.mono ?_
            rintro e1 u' ⟨r, rfl, hr, hbu⟩
            exact hK _ _ hbu ⟨r, getD_put_self a 25 _ (by show _ < a.tmps.size; omega), hr⟩
          · obtain rfl := Option.some.inj ho
            obtain ⟨r, f1, hr⟩ := he _ (Array.mem_of_getElem? (i := 0) rfl) (by kernel_rfl) _ rfl
            have f1 : a.tmps.getD 25 undef = .bool r := f1
            clear he
            go_simp
            exact hK _ _ (Below.refl _ _) ⟨r, getD_put_self a 26 _ (by show _ < a.tmps.size; omega), hr⟩
          · exact absurd ho (by simp)
        · intro a u hf hR0 hp
          have hR : Grow wr u := (Below.drew (Below.refl _ _)).trans hR0
          have hRw : Below w.heap.size w u := hb.trans (hR.mono hsz)
          have md : a.defers = [] := hf.defers
          obtain ⟨r, m26, hr⟩ := hp 9 _ rfl
          have m26 : a.tmps.getD 26 undef = .bool (!r) := m26
          have m0 : a.tmps.getD 0 undef = .slice (some ⟨b, off, none⟩) ps.length cap := hf.at_ 0 (by kernel_rfl)
          have m1 : a.tmps.getD 1 undef = .slice (some ⟨b', off', none⟩) qs.length cap' := hf.at_ 1 (by kernel_rfl)
          have m2 : a.tmps.getD 2 undef = undef := hf.at_ 2 (by kernel_rfl)
          have m3 : a.tmps.getD 3 undef = undef := hf.at_ 3 (by kernel_rfl)
          have m5 : a.tmps.getD 5 undef = .int .i64 j := hf.at_ 5 (by kernel_rfl)
          have m6 : a.tmps.getD 6 undef = .slice (some ⟨b, off, none⟩) ps.length cap := hf.at_ 6 (by kernel_rfl)
          have m7 : a.tmps.getD 7 undef = .int .i64 ps.length := hf.at_ 7 (by kernel_rfl)
          have m8 : a.tmps.getD 8 undef = .slice (some ⟨b', off', none⟩) qs.length cap' := hf.at_ 8 (by kernel_rfl)
          have m9 : a.tmps.getD 9 undef = .int .i64 qs.length := hf.at_ 9 (by kernel_rfl)
          have m10 : a.tmps.getD 10 undef = .bool false := hf.at_ 10 (by kernel_rfl)
          obtain ⟨f, ea, hfv⟩ := act_lit a 27 hf.size
          rw [← hfv] at m0 m1 m2 m3 m5 m6 m7 m8 m9 m10 m26
          rw [md] at ea
          cases r with
          | true =>
            simp only [List.range, List.range.loop, List.map_cons, List.map_nil, m0, m1, m2, m3, m5, m6, m7, m8, m9, m10, m26, Bool.not_true] at ea
            subst ea
            have HN : Hid (ps.take (j + 1) = qs.take (j + 1)) := take_succ_ins HT.out HX.out.1 HX.out.2 (hr.mp rfl)
            clear hfv hf hp hR0 hR md hr h5 h5'
            go_wp2
            go_roundw
            case rel => exact ⟨j + 1, by omega, by go_num, hRw, HN.out⟩
            case measure => simp [intOf]; omega
          | false =>
            simp only [List.range, List.range.loop, List.map_cons, List.map_nil, m0, m1, m2, m3, m5, m6, m7, m8, m9, m10, m26, Bool.not_false] at ea
            subst ea
            have HN : Hid (ps ≠ qs) := ne_at_ins HX.out.1 HX.out.2 fun h => by have := hr.mpr h; cases this
            clear hfv hf hp hR0 hR md hr h5 h5'
            go_wp2
            go_ret
            exact ⟨false, rfl, by simp [HN.out], hRw⟩
      · have hje : j = ps.length := by omega
        subst hje
        have he : ps = qs := by have := HT.out; rwa [List.take_length, HL.out, List.take_length] at this
        have HE : Hid (ps = qs) := he
        clear he
        go_wp2
        go_ret
        exact ⟨true, rfl, by simp [HE.out], hb⟩
  · have hl2 : ((ps.length : Int) != (qs.length : Int)) = true := by simp; omega
    have HE : Hid (ps ≠ qs) := fun h => hl (by rw [h])
    go_enter Tryz.func11, Tryz.ntmps11
    go_wp2
    go_ret
    exact ⟨false, rfl, by simp [HE.out], Below.refl _ _⟩
end Go.Proofs.YtdhpbiplkjpiiaaGreatDoor
