/-
  What the steps of code do to what turns: store, two, back. (Written by our generator gen_mac2.py.)
-/
import Derived.Test.YtdhpbiplkjpiiaaGreatDoorMacB
namespace Go.Proofs.YtdhpbiplkjpiiaaGreatDoor
open Go.ChangeShapes Go.WideShapes Go.ChangeAt Go.RowKit
set_option linter.unusedVariables false
set_option maxRecDepth 100000

set_option maxHeartbeats 2000000 in
theorem step3_any (w : World) (B I : Nat) (x y z : Value) (f : Int) (h : Nat → Int) (k : Nat) (pc : Int) (p : InsD) (d : MemD) (lo hh : Nat) (hmi : MI w lo hh (.agg #[x, y, z]) d) (hhi : hh ≤ w.heap.size) (hap : B < lo ∨ hh ≤ B) (hm : MacC w B x y z f h ((k : Int) + 1) pc) (hk : k < 12) (hB : B < w.heap.size) (hI : I < w.heap.size) (hIB : I ≠ B) (hi : CellI w I 0 p) :
    Calls Tryz.prog 62 #[.pointer (some ⟨B, 0, none⟩), .pointer (some ⟨I, 0, none⟩)] w fun e w' => e = .returned .nilIface ∧ (∃ x' y' z' lo' hi', MacC w' B x' y' z' f h k pc ∧ MO w' lo' hi' (.agg #[x', y', z']) (memPut d ⟨p.ak, p.at_⟩ (h k)) ∧ w.heap.size ≤ lo' ∧ hi' ≤ w'.heap.size) ∧ Out B (B + 1) w w' := by
  have HM : Hid (MacC w.drew B x y z f h ((k : Int) + 1) pc) := hm.at_ rfl
  have HI : Hid (CellI w I 0 p) := hi
  have HR0 : Hid (Out B (B + 1) w w) := out_refl _ _
  have HMI : Hid (MI w lo hh (.agg #[x, y, z]) d) := hmi
  clear hm hi hmi
  go_enter Tryz.func62, Tryz.ntmps62
  go_wp2_with fail
  refine wp_region_dagC (R := Out B (B + 1)) (Φ := fun i v u => match i with
      | 0 => v = .pointer (some ⟨B, 0, none⟩)
      | 1 => v = .pointer (some ⟨B, 0, none⟩)
      | 2 => v = .pointer (some ⟨B, 0, none⟩)
      | 3 => v = .pointer (some ⟨B, 0, none⟩)
      | 4 => v = .pointer (some ⟨B, 0, none⟩)
      | 5 => v = .agg #[x, y, z]
      | 6 => v = .pointer (some ⟨I, 2, none⟩)
      | 7 => v = .agg #[.int .i64 p.ak, .int .i64 p.at_]
      | 8 => v = .pointer (some ⟨B, 0, none⟩)
      | 9 => v = .pointer (some ⟨B, 0, none⟩)
      | 10 => v = .pointer (some ⟨B, 4, none⟩)
      | 11 => v = .int .i64 (h k)
      | 12 => ∃ a b c lo' hi', v = .agg #[a, b, c] ∧ MO u lo' hi' (.agg #[a, b, c]) (memPut d ⟨p.ak, p.at_⟩ (h k)) ∧ w.heap.size ≤ lo' ∧ hi' ≤ u.heap.size
      | 13 => v = .pointer (some ⟨B, 0, none⟩)
      | 14 => v = .pointer (some ⟨B, 0, none⟩)
      | 15 => v = .pointer (some ⟨B, 0, none⟩)
      | 16 => True
      | _ => True)
    (J := fun L ac u => JM (fun u => MacC u B x y z f h ((k : Int) + 1) pc) (fun u => MacC u B x y z f h k pc) (fun u => ∃ x' y' z' lo' hi', MacC u B x' y' z' f h k pc ∧ MO u lo' hi' (.agg #[x', y', z']) (memPut d ⟨p.ak, p.at_⟩ (h k)) ∧ w.heap.size ≤ lo' ∧ hi' ≤ u.heap.size) 11 16 L u) (by kernel_rfl) (by kernel_rfl) (by kernel_rfl) (out_refl _ _) (fun _ _ _ h k => h.trans k) ?_ ⟨fun _ => HM.out, fun e => by simp at e, fun e => by simp at e⟩ ?_ ?_
  · intro i v u u' hr
    match i with
    | 0 | 1 | 2 | 3 | 4 | 5 | 6 | 7 | 8 | 9 | 10 | 11 | 13 | 14 | 15 | 16 | _ + 17 => exact fun h => h
    | 12 => exact fun ⟨a, b, c, l1, l2, k1, k2, k3, k4⟩ => ⟨a, b, c, l1, l2, k1, k2.out hr k4 (by omega), k3, Nat.le_trans k4 hr.size⟩
  · intro i o ho L ac u hf hR0 hLs hLi hcl hp he hJ K' hK
    have hR : Out B (B + 1) w u := HR0.out.trans ((out_drew _ _).trans hR0)
    have hsz' : ac.tmps.size = 20 := hf.size
    have hus := hR.size
    have hLs : L.size = 17 := hLs
    rcases i with _ | _ | _ | _ | _ | _ | _ | _ | _ | _ | _ | _ | _ | _ | _ | _ | _ | i
    · obtain rfl := Option.some.inj ho
      have q0 : ac.tmps.getD 0 undef = .pointer (some ⟨B, 0, none⟩) := hf.at_ 0 (by kernel_rfl)
      clear hp he
      go_simp
      exact hK _ _ (out_refl _ _) (getD_put_self ac 4 _ (by show _ < ac.tmps.size; omega)) (hJ.other (by decide) (by decide) id id id)
    · obtain rfl := Option.some.inj ho
      have q0 : ac.tmps.getD 0 undef = .pointer (some ⟨B, 0, none⟩) := hf.at_ 0 (by kernel_rfl)
      clear hp he
      go_simp
      exact hK _ _ (out_refl _ _) (getD_put_self ac 5 _ (by show _ < ac.tmps.size; omega)) (hJ.other (by decide) (by decide) id id id)
    · obtain rfl := Option.some.inj ho
      have q5 : ac.tmps.getD 5 undef = .pointer (some ⟨B, 0, none⟩) := hp 1 _ rfl (he _ (Array.mem_of_getElem? (i := 0) rfl) (by kernel_rfl))
      clear hp he
      go_simp
      exact hK _ _ (out_refl _ _) (getD_put_self ac 6 _ (by show _ < ac.tmps.size; omega)) (hJ.other (by decide) (by decide) id id id)
    · obtain rfl := Option.some.inj ho
      have q6 : ac.tmps.getD 6 undef = .pointer (some ⟨B, 0, none⟩) := hp 2 _ rfl (he _ (Array.mem_of_getElem? (i := 0) rfl) (by kernel_rfl))
      clear hp he
      go_simp
      exact hK _ _ (out_refl _ _) (getD_put_self ac 7 _ (by show _ < ac.tmps.size; omega)) (hJ.other (by decide) (by decide) id id id)
    · obtain rfl := Option.some.inj ho
      have q7 : ac.tmps.getD 7 undef = .pointer (some ⟨B, 0, none⟩) := hp 3 _ rfl (he _ (Array.mem_of_getElem? (i := 0) rfl) (by kernel_rfl))
      clear hp he
      go_simp
      exact hK _ _ (out_refl _ _) (getD_put_self ac 8 _ (by show _ < ac.tmps.size; omega)) (hJ.other (by decide) (by decide) id id id)
    · obtain rfl := Option.some.inj ho
      have q8 : ac.tmps.getD 8 undef = .pointer (some ⟨B, 0, none⟩) := hp 4 _ rfl (he _ (Array.mem_of_getElem? (i := 0) rfl) (by kernel_rfl))
      have n12 : L.getD 12 true = false := hcl.not (i := 12) (j := 5) (by kernel_rfl) hLi
      have n16 : L.getD 16 true = false := hcl.not (i := 16) (j := 12) (by kernel_rfl) n12
      have hnw := n16
      obtain ⟨c0, c1, c2⟩ : u.cell? ⟨B, 0, none⟩ = some x ∧ u.cell? ⟨B, 1, none⟩ = some y ∧ u.cell? ⟨B, 2, none⟩ = some z := by
        cases h11 : L.getD 11 true with
        | false => exact ⟨(hJ.a h11).c0, (hJ.a h11).c1, (hJ.a h11).c2⟩
        | true => exact ⟨(hJ.b h11 hnw).c0, (hJ.b h11 hnw).c1, (hJ.b h11 hnw).c2⟩
      clear hp he
      go_simp
      exact hK _ _ (out_refl _ _) (getD_put_self ac 9 _ (by show _ < ac.tmps.size; omega)) (hJ.other (by decide) (by decide) id id id)
    · obtain rfl := Option.some.inj ho
      have q1 : ac.tmps.getD 1 undef = .pointer (some ⟨I, 0, none⟩) := hf.at_ 1 (by kernel_rfl)
      clear hp he
      go_simp
      exact hK _ _ (out_refl _ _) (getD_put_self ac 10 _ (by show _ < ac.tmps.size; omega)) (hJ.other (by decide) (by decide) id id id)
    · obtain rfl := Option.some.inj ho
      have q10 : ac.tmps.getD 10 undef = .pointer (some ⟨I, 2, none⟩) := hp 6 _ rfl (he _ (Array.mem_of_getElem? (i := 0) rfl) (by kernel_rfl))
      obtain ⟨c0, c1, c2, c3⟩ := HI.out.kept (hR.block I hI (by omega))
      have c1 : u.cell? ⟨I, 1, none⟩ = _ := c1
      have c2 : u.cell? ⟨I, 2, none⟩ = _ := c2
      have c3 : u.cell? ⟨I, 3, none⟩ = _ := c3
      clear hp he
      go_simp
      exact hK _ _ (out_refl _ _) (getD_put_self ac 11 _ (by show _ < ac.tmps.size; omega)) (hJ.other (by decide) (by decide) id id id)
    · obtain rfl := Option.some.inj ho
      have q0 : ac.tmps.getD 0 undef = .pointer (some ⟨B, 0, none⟩) := hf.at_ 0 (by kernel_rfl)
      clear hp he
      go_simp
      exact hK _ _ (out_refl _ _) (getD_put_self ac 12 _ (by show _ < ac.tmps.size; omega)) (hJ.other (by decide) (by decide) id id id)
    · obtain rfl := Option.some.inj ho
      have q12 : ac.tmps.getD 12 undef = .pointer (some ⟨B, 0, none⟩) := hp 8 _ rfl (he _ (Array.mem_of_getElem? (i := 0) rfl) (by kernel_rfl))
      clear hp he
      go_simp
      exact hK _ _ (out_refl _ _) (getD_put_self ac 13 _ (by show _ < ac.tmps.size; omega)) (hJ.other (by decide) (by decide) id id id)
    · obtain rfl := Option.some.inj ho
      have q13 : ac.tmps.getD 13 undef = .pointer (some ⟨B, 0, none⟩) := hp 9 _ rfl (he _ (Array.mem_of_getElem? (i := 0) rfl) (by kernel_rfl))
      clear hp he
      go_simp
      exact hK _ _ (out_refl _ _) (getD_put_self ac 14 _ (by show _ < ac.tmps.size; omega)) (hJ.other (by decide) (by decide) id id id)
    · obtain rfl := Option.some.inj ho
      have q14 : ac.tmps.getD 14 undef = .pointer (some ⟨B, 4, none⟩) := hp 10 _ rfl (he _ (Array.mem_of_getElem? (i := 0) rfl) (by kernel_rfl))
      have n12 : L.getD 12 true = false := hcl.not (i := 12) (j := 11) (by kernel_rfl) hLi
      have n16 : L.getD 16 true = false := hcl.not (i := 16) (j := 12) (by kernel_rfl) n12
      have hnw := n16
      have hM := hJ.a hLi
      clear hp he
      go_simp
      refine (pop_any _ _ _ _ _ _ _ _ _ hM hk).mono ?_
      rintro e1 u' ⟨rfl, m1, o1⟩
      exact hK _ _ o1 (getD_put_self ac 15 _ (by show _ < ac.tmps.size; omega)) (JM.one (by omega) (by decide) hnw m1)
    · obtain rfl := Option.some.inj ho
      have q9 : ac.tmps.getD 9 undef = .agg #[x, y, z] := hp 5 _ rfl (he _ (Array.mem_of_getElem? (i := 0) rfl) (by kernel_rfl))
      have q11 : ac.tmps.getD 11 undef = .agg #[.int .i64 p.ak, .int .i64 p.at_] := hp 7 _ rfl (he _ (Array.mem_of_getElem? (i := 1) rfl) (by kernel_rfl))
      have q15 : ac.tmps.getD 15 undef = .int .i64 (h k) := hp 11 _ rfl (he _ (Array.mem_of_getElem? (i := 2) rfl) (by kernel_rfl))
      clear hp he
      go_simp
      refine (iMemPut_any _ _ _ _ d p.ak p.at_ (h k) (HMI.out.out hR hhi (by omega)) (by omega)).mono ?_
      rintro e1 u' ⟨m', rfl, hmo, hbu⟩
      obtain ⟨a, b, c, rfl, _⟩ := id hmo.mi
      exact hK _ _ (out_of_below hbu _ _) ⟨a, b, c, _, _, getD_put_self ac 16 _ (by show _ < ac.tmps.size; omega), hmo, by omega, Nat.le_refl _⟩ (hJ.other (by decide) (by decide) (fun k => k.below hbu (by omega)) (fun k => k.below hbu (by omega)) (fun ⟨a, b, c, l1, l2, k1, k2, k3, k4⟩ => ⟨a, b, c, l1, l2, k1.below hbu (by omega), k2.below hbu k4, k3, Nat.le_trans k4 hbu.size⟩))
    · obtain rfl := Option.some.inj ho
      have q4 : ac.tmps.getD 4 undef = .pointer (some ⟨B, 0, none⟩) := hp 0 _ rfl (he _ (Array.mem_of_getElem? (i := 0) rfl) (by kernel_rfl))
      clear hp he
      go_simp
      exact hK _ _ (out_refl _ _) (getD_put_self ac 17 _ (by show _ < ac.tmps.size; omega)) (hJ.other (by decide) (by decide) id id id)
    · obtain rfl := Option.some.inj ho
      have q17 : ac.tmps.getD 17 undef = .pointer (some ⟨B, 0, none⟩) := hp 13 _ rfl (he _ (Array.mem_of_getElem? (i := 0) rfl) (by kernel_rfl))
      clear hp he
      go_simp
      exact hK _ _ (out_refl _ _) (getD_put_self ac 18 _ (by show _ < ac.tmps.size; omega)) (hJ.other (by decide) (by decide) id id id)
    · obtain rfl := Option.some.inj ho
      have q18 : ac.tmps.getD 18 undef = .pointer (some ⟨B, 0, none⟩) := hp 14 _ rfl (he _ (Array.mem_of_getElem? (i := 0) rfl) (by kernel_rfl))
      clear hp he
      go_simp
      exact hK _ _ (out_refl _ _) (getD_put_self ac 19 _ (by show _ < ac.tmps.size; omega)) (hJ.other (by decide) (by decide) id id id)
    · obtain rfl := Option.some.inj ho
      have q19 : ac.tmps.getD 19 undef = .pointer (some ⟨B, 0, none⟩) := hp 15 _ rfl (he _ (Array.mem_of_getElem? (i := 0) rfl) (by kernel_rfl))
      have e12 : L.getD 12 true = true := he _ (Array.mem_of_getElem? (i := 1) rfl) (by kernel_rfl)
      have e11 : L.getD 11 true = true := hcl.wait (i := 12) (j := 11) (by kernel_rfl) e12
      obtain ⟨a, b, c, l1, l2, q16, k2, k3, k4⟩ := hp 12 _ rfl e12
      obtain ⟨qa, xa, ya, qb, xb, yb, qc, xc, yc, hagg⟩ := k2.mi.aggs
      simp only [Value.agg.injEq, Array.mk.injEq, List.cons.injEq, and_true] at hagg
      obtain ⟨rfl, rfl, rfl⟩ := hagg
      have q16 : ac.tmps.getD 16 undef = .agg #[.slice qa xa ya, .slice qb xb yb, .slice qc xc yc] := q16
      have hM := hJ.b e11 hLi
      obtain ⟨u1, hu1, m1, o1⟩ := hM.setMem (.slice qa xa ya) (.slice qb xb yb) (.slice qc xc yc)
      have hKK := hK undef u1 o1 trivial (JM.two (by omega) (by decide) e11 ⟨_, _, _, l1, l2, m1, k2.out o1 k4 (by omega), k3, by have := o1.size; omega⟩)
      rw [← hu1] at hKK
      have HKK : Hid _ := hKK
      have c0 := hM.c0
      have c1 := hM.c1
      have c2 := hM.c2
      have f0 := hM.f_ 0
      have f1 := hM.f_ 1
      have f2 := hM.f_ 2
      clear hp he hK hKK hJ hM m1 o1 k2 hu1
      go_simp
      exact HKK.out
    · exact absurd ho (by simp)
  · intro L ac u hf hR0 hp hJ
    have hR : Out B (B + 1) w u := HR0.out.trans ((out_drew _ _).trans hR0)
    have hS := hJ.c (hp 16 _ rfl).1
    have HE : Hid (_ ∧ Out B (B + 1) w u) := ⟨hS, hR⟩
    clear HM HI HMI
    clear hp hJ hR0 hR hS
    obtain ⟨fq, ea, hfv⟩ := act_lit ac 20 hf.size
    have md : ac.defers = [] := hf.defers
    rw [md] at ea
    have m0 := hf.at_ 0 (by kernel_rfl)
    have m1 := hf.at_ 1 (by kernel_rfl)
    have m2 := hf.at_ 2 (by kernel_rfl)
    have m3 := hf.at_ 3 (by kernel_rfl)
    rw [← hfv] at m0 m1 m2 m3
    simp only [Array.getD_eq_getD_getElem?, List.getElem?_toArray, List.getElem?_cons_succ, List.getElem?_cons_zero, Option.getD_some] at m0 m1 m2 m3
    simp only [List.range, List.range.loop, List.map_cons, List.map_nil, m0, m1, m2, m3] at ea
    subst ea
    clear m0 m1 m2 m3 hfv md hf
    go_wp2
    go_ret
    exact ⟨rfl, HE.out.1, HE.out.2⟩
set_option maxHeartbeats 2000000 in
theorem step4_any (w : World) (B I : Nat) (x y z : Value) (f : Int) (h : Nat → Int) (k : Nat) (pc : Int) (p : InsD) (hm : MacC w B x y z f h ((k : Int) + 1 + 1) pc) (hk : k + 1 < 12) (h3 : 3 ≤ p.n) (h9 : p.n ≤ 9) (hB : B < w.heap.size) (hI : I < w.heap.size) (hIB : I ≠ B) (hi : CellI w I 0 p) :
    Calls Tryz.prog 65 #[.pointer (some ⟨B, 0, none⟩), .pointer (some ⟨I, 0, none⟩)] w fun e w' => e = .returned .nilIface ∧ MacC w' B x y z f (upd h k (twoZ p.n (h k) (h (k + 1)))) ((k : Int) + 1) pc ∧ Out B (B + 1) w w' := by
  have HI : Hid (CellI w I 0 p) := hi
  have hcast : ((k + 1 : Nat) : Int) = (k : Int) + 1 := by omega
  have hP1 := pop_any w B x y z f h (k + 1) pc (by rw [hcast]; exact hm) hk
  rw [hcast] at hP1
  clear hm hi hcast
  go_enter Tryz.func65, Tryz.ntmps65
  go_wp2_with fail
  refine hP1.mono ?_
  clear hP1
  rintro e1 u1 ⟨rfl, m1, o1⟩
  have hP2 := pop_any u1 B x y z f h k pc m1 (by omega)
  clear m1
  go_wp2_with fail
  refine hP2.mono ?_
  clear hP2
  rintro e2 u2 ⟨rfl, m2, o2⟩
  have HR0 : Hid (Out B (B + 1) w u2) := o1.trans o2
  have HM : Hid (MacC u2.drew B x y z f h k pc) := m2.at_ rfl
  have hk : k < 12 := by omega
  clear m2 o1 o2
  go_wp2_with fail
  refine wp_region_dagC (R := Out B (B + 1)) (Φ := fun i v u => match i with
      | 0 => v = .pointer (some ⟨B, 0, none⟩)
      | 1 => v = .pointer (some ⟨B, 0, none⟩)
      | 2 => v = .pointer (some ⟨B, 4, none⟩)
      | 3 => v = .pointer (some ⟨I, 1, none⟩)
      | 4 => v = .int .i64 p.n
      | 5 => v = .agg #[.int .i64 0, .int .i64 0, .int .i64 0, .int .i64 0, .slice none 0 0]
      | 6 => v = .pointer (some ⟨B, 0, none⟩)
      | 7 => v = .pointer (some ⟨B, 0, none⟩)
      | 8 => v = .pointer (some ⟨B, 0, none⟩)
      | 9 => v = .pointer (some ⟨B, 0, none⟩)
      | 10 => v = .agg #[x, y, z]
      | 11 => v = .int .i64 (h k)
      | 12 => v = .int .i64 (h (k + 1))
      | 13 => v = .int .i64 (twoZ p.n (h k) (h (k + 1)))
      | 14 => True
      | _ => True)
    (J := fun L ac u => JM (fun u => MacC u B x y z f h k pc) (fun _ => True) (fun u => MacC u B x y z f (upd h k (twoZ p.n (h k) (h (k + 1)))) ((k : Int) + 1) pc) 14 14 L u) (by kernel_rfl) (by kernel_rfl) (by kernel_rfl) (out_refl _ _) (fun _ _ _ h k => h.trans k) ?_ ⟨fun _ => HM.out, fun e => by simp at e, fun e => by simp at e⟩ ?_ ?_
  · intro i v u u' hr
    match i with
    | 0 | 1 | 2 | 3 | 4 | 5 | 6 | 7 | 8 | 9 | 10 | 11 | 12 | 13 | 14 | _ + 15 => exact fun h => h
  · intro i o ho L ac u hf hR0 hLs hLi hcl hp he hJ K' hK
    have hR : Out B (B + 1) w u := HR0.out.trans ((out_drew _ _).trans hR0)
    have hsz' : ac.tmps.size = 29 := hf.size
    have hus := hR.size
    have hLs : L.size = 15 := hLs
    rcases i with _ | _ | _ | _ | _ | _ | _ | _ | _ | _ | _ | _ | _ | _ | _ | i
    · obtain rfl := Option.some.inj ho
      have q0 : ac.tmps.getD 0 undef = .pointer (some ⟨B, 0, none⟩) := hf.at_ 0 (by kernel_rfl)
      clear hp he
      go_simp
      exact hK _ _ (out_refl _ _) (getD_put_self ac 14 _ (by show _ < ac.tmps.size; omega)) (hJ.other (by decide) (by decide) id id id)
    · obtain rfl := Option.some.inj ho
      have q14 : ac.tmps.getD 14 undef = .pointer (some ⟨B, 0, none⟩) := hp 0 _ rfl (he _ (Array.mem_of_getElem? (i := 0) rfl) (by kernel_rfl))
      clear hp he
      go_simp
      exact hK _ _ (out_refl _ _) (getD_put_self ac 15 _ (by show _ < ac.tmps.size; omega)) (hJ.other (by decide) (by decide) id id id)
    · obtain rfl := Option.some.inj ho
      have q15 : ac.tmps.getD 15 undef = .pointer (some ⟨B, 0, none⟩) := hp 1 _ rfl (he _ (Array.mem_of_getElem? (i := 0) rfl) (by kernel_rfl))
      clear hp he
      go_simp
      exact hK _ _ (out_refl _ _) (getD_put_self ac 16 _ (by show _ < ac.tmps.size; omega)) (hJ.other (by decide) (by decide) id id id)
    · obtain rfl := Option.some.inj ho
      have q1 : ac.tmps.getD 1 undef = .pointer (some ⟨I, 0, none⟩) := hf.at_ 1 (by kernel_rfl)
      clear hp he
      go_simp
      exact hK _ _ (out_refl _ _) (getD_put_self ac 17 _ (by show _ < ac.tmps.size; omega)) (hJ.other (by decide) (by decide) id id id)
    · obtain rfl := Option.some.inj ho
      have q17 : ac.tmps.getD 17 undef = .pointer (some ⟨I, 1, none⟩) := hp 3 _ rfl (he _ (Array.mem_of_getElem? (i := 0) rfl) (by kernel_rfl))
      obtain ⟨c0, c1, c2, c3⟩ := HI.out.kept (hR.block I hI (by omega))
      have c1 : u.cell? ⟨I, 1, none⟩ = _ := c1
      have c2 : u.cell? ⟨I, 2, none⟩ = _ := c2
      have c3 : u.cell? ⟨I, 3, none⟩ = _ := c3
      clear hp he
      go_simp
      exact hK _ _ (out_refl _ _) (getD_put_self ac 18 _ (by show _ < ac.tmps.size; omega)) (hJ.other (by decide) (by decide) id id id)
    · obtain rfl := Option.some.inj ho
      clear hp he
      go_simp
      exact hK _ _ (out_refl _ _) (getD_put_self ac 19 _ (by show _ < ac.tmps.size; omega)) (hJ.other (by decide) (by decide) id id id)
    · obtain rfl := Option.some.inj ho
      have q0 : ac.tmps.getD 0 undef = .pointer (some ⟨B, 0, none⟩) := hf.at_ 0 (by kernel_rfl)
      clear hp he
      go_simp
      exact hK _ _ (out_refl _ _) (getD_put_self ac 20 _ (by show _ < ac.tmps.size; omega)) (hJ.other (by decide) (by decide) id id id)
    · obtain rfl := Option.some.inj ho
      have q20 : ac.tmps.getD 20 undef = .pointer (some ⟨B, 0, none⟩) := hp 6 _ rfl (he _ (Array.mem_of_getElem? (i := 0) rfl) (by kernel_rfl))
      clear hp he
      go_simp
      exact hK _ _ (out_refl _ _) (getD_put_self ac 21 _ (by show _ < ac.tmps.size; omega)) (hJ.other (by decide) (by decide) id id id)
    · obtain rfl := Option.some.inj ho
      have q21 : ac.tmps.getD 21 undef = .pointer (some ⟨B, 0, none⟩) := hp 7 _ rfl (he _ (Array.mem_of_getElem? (i := 0) rfl) (by kernel_rfl))
      clear hp he
      go_simp
      exact hK _ _ (out_refl _ _) (getD_put_self ac 22 _ (by show _ < ac.tmps.size; omega)) (hJ.other (by decide) (by decide) id id id)
    · obtain rfl := Option.some.inj ho
      have q22 : ac.tmps.getD 22 undef = .pointer (some ⟨B, 0, none⟩) := hp 8 _ rfl (he _ (Array.mem_of_getElem? (i := 0) rfl) (by kernel_rfl))
      clear hp he
      go_simp
      exact hK _ _ (out_refl _ _) (getD_put_self ac 23 _ (by show _ < ac.tmps.size; omega)) (hJ.other (by decide) (by decide) id id id)
    · obtain rfl := Option.some.inj ho
      have q23 : ac.tmps.getD 23 undef = .pointer (some ⟨B, 0, none⟩) := hp 9 _ rfl (he _ (Array.mem_of_getElem? (i := 0) rfl) (by kernel_rfl))
      have n13 : L.getD 13 true = false := hcl.not (i := 13) (j := 10) (by kernel_rfl) hLi
      have n14 : L.getD 14 true = false := hcl.not (i := 14) (j := 13) (by kernel_rfl) n13
      have hnw := n14
      have hM := hJ.a hnw
      have c0 := hM.c0
      have c1 := hM.c1
      have c2 := hM.c2
      clear hM
      clear hp he
      go_simp
      exact hK _ _ (out_refl _ _) (getD_put_self ac 24 _ (by show _ < ac.tmps.size; omega)) (hJ.other (by decide) (by decide) id id id)
    · obtain rfl := Option.some.inj ho
      have q5 : ac.tmps.getD 5 undef = .int .i64 (h k) := hf.at_ 5 (by kernel_rfl)
      clear hp he
      go_simp
      exact hK _ _ (out_refl _ _) (getD_put_self ac 25 _ (by show _ < ac.tmps.size; omega)) (hJ.other (by decide) (by decide) id id id)
    · obtain rfl := Option.some.inj ho
      have q4 : ac.tmps.getD 4 undef = .int .i64 (h (k + 1)) := hf.at_ 4 (by kernel_rfl)
      clear hp he
      go_simp
      exact hK _ _ (out_refl _ _) (getD_put_self ac 26 _ (by show _ < ac.tmps.size; omega)) (hJ.other (by decide) (by decide) id id id)
    · obtain rfl := Option.some.inj ho
      have q18 : ac.tmps.getD 18 undef = .int .i64 p.n := hp 4 _ rfl (he _ (Array.mem_of_getElem? (i := 0) rfl) (by kernel_rfl))
      have q19 : ac.tmps.getD 19 undef = .agg #[.int .i64 0, .int .i64 0, .int .i64 0, .int .i64 0, .slice none 0 0] := hp 5 _ rfl (he _ (Array.mem_of_getElem? (i := 1) rfl) (by kernel_rfl))
      have q24 : ac.tmps.getD 24 undef = .agg #[x, y, z] := hp 10 _ rfl (he _ (Array.mem_of_getElem? (i := 2) rfl) (by kernel_rfl))
      have q25 : ac.tmps.getD 25 undef = .int .i64 (h k) := hp 11 _ rfl (he _ (Array.mem_of_getElem? (i := 3) rfl) (by kernel_rfl))
      have q26 : ac.tmps.getD 26 undef = .int .i64 (h (k + 1)) := hp 12 _ rfl (he _ (Array.mem_of_getElem? (i := 4) rfl) (by kernel_rfl))
      clear hp he
      go_simp
      refine (comes_two _ 0 0 0 0 none 0 0 x y z (h k) (h (k + 1)) p.n h3 h9).mono ?_
      rintro e1 u' ⟨rfl, hbu⟩
      exact hK _ _ (out_of_below hbu _ _) (getD_put_self ac 27 _ (by show _ < ac.tmps.size; omega)) (hJ.other (by decide) (by decide) (fun k => k.below hbu (by omega)) (fun k => k) (fun k => k.below hbu (by omega)))
    · obtain rfl := Option.some.inj ho
      have q16 : ac.tmps.getD 16 undef = .pointer (some ⟨B, 4, none⟩) := hp 2 _ rfl (he _ (Array.mem_of_getElem? (i := 0) rfl) (by kernel_rfl))
      have q27 : ac.tmps.getD 27 undef = .int .i64 (twoZ p.n (h k) (h (k + 1))) := hp 13 _ rfl (he _ (Array.mem_of_getElem? (i := 1) rfl) (by kernel_rfl))
      have hM := hJ.a hLi
      clear hp he
      go_simp
      refine (push_any _ _ _ _ _ _ _ _ _ _ hM hk).mono ?_
      rintro e1 u' ⟨rfl, m1, o1⟩
      exact hK _ _ o1 trivial (JM.only (by omega) m1)
    · exact absurd ho (by simp)
  · intro L ac u hf hR0 hp hJ
    have hR : Out B (B + 1) w u := HR0.out.trans ((out_drew _ _).trans hR0)
    have hS := hJ.c (hp 14 _ rfl).1
    have HE : Hid (_ ∧ Out B (B + 1) w u) := ⟨hS, hR⟩
    clear HM HI
    clear hp hJ hR0 hR hS
    obtain ⟨fq, ea, hfv⟩ := act_lit ac 29 hf.size
    have md : ac.defers = [] := hf.defers
    rw [md] at ea
    have m0 := hf.at_ 0 (by kernel_rfl)
    have m1 := hf.at_ 1 (by kernel_rfl)
    have m2 := hf.at_ 2 (by kernel_rfl)
    have m3 := hf.at_ 3 (by kernel_rfl)
    have m4 := hf.at_ 4 (by kernel_rfl)
    have m5 := hf.at_ 5 (by kernel_rfl)
    have m6 := hf.at_ 6 (by kernel_rfl)
    have m7 := hf.at_ 7 (by kernel_rfl)
    have m8 := hf.at_ 8 (by kernel_rfl)
    have m9 := hf.at_ 9 (by kernel_rfl)
    have m10 := hf.at_ 10 (by kernel_rfl)
    have m11 := hf.at_ 11 (by kernel_rfl)
    have m12 := hf.at_ 12 (by kernel_rfl)
    have m13 := hf.at_ 13 (by kernel_rfl)
    rw [← hfv] at m0 m1 m2 m3 m4 m5 m6 m7 m8 m9 m10 m11 m12 m13
    simp only [Array.getD_eq_getD_getElem?, List.getElem?_toArray, List.getElem?_cons_succ, List.getElem?_cons_zero, Option.getD_some] at m0 m1 m2 m3 m4 m5 m6 m7 m8 m9 m10 m11 m12 m13
    simp only [List.range, List.range.loop, List.map_cons, List.map_nil, m0, m1, m2, m3, m4, m5, m6, m7, m8, m9, m10, m11, m12, m13] at ea
    subst ea
    clear m0 m1 m2 m3 m4 m5 m6 m7 m8 m9 m10 m11 m12 m13 hfv md hf
    go_wp2
    go_ret
    exact ⟨rfl, HE.out.1, HE.out.2⟩
set_option maxHeartbeats 1000000 in
theorem takeM_zero (w : World) (B : Nat) (x y z : Value) (h : Nat → Int) (many pc : Int) (ty : TypeId) (v : Value) (hm : MacC w B x y z 0 h many pc) (hG : w.cell? ⟨0, 0, none⟩ = some (.iface ty v)) :
    Calls Tryz.prog 73 #[.pointer (some ⟨B, 0, none⟩)] w fun e w' => e = .returned (.iface ty v) ∧ w' = w := by
  have c3 := hm.c3
  clear hm
  go_enter Tryz.func73, Tryz.ntmps73
  go_wp2
  go_ret
  exact ⟨rfl, rfl⟩

set_option maxHeartbeats 1000000 in
theorem takeM_some (w : World) (B : Nat) (x y z : Value) (h : Nat → Int) (many pc : Int) (f : Nat) (hf : f ≤ 100) (hm : MacC w B x y z ((f : Int) + 1) h many pc) :
    Calls Tryz.prog 73 #[.pointer (some ⟨B, 0, none⟩)] w fun e w' => e = .returned .nilIface ∧ MacC w' B x y z f h many pc ∧ Out B (B + 1) w w' := by
  have HE : Hid (MacC (w.setCell ⟨B, 3, none⟩ (.int .i64 (f : Int))) B x y z f h many pc ∧ Out B (B + 1) w (w.setCell ⟨B, 3, none⟩ (.int .i64 (f : Int)))) := ⟨hm.setFuel _, out_set _ _ _ _⟩
  obtain ⟨u2, hu2⟩ : ∃ u2, w.setCell ⟨B, 3, none⟩ (.int .i64 (f : Int)) = u2 := ⟨_, rfl⟩
  rw [hu2] at HE
  have HU : Hid (_ = u2) := hu2
  have c3 := hm.c3
  have cf := hm.f_ 3
  have hne : ((f : Int) + 1 == 0) = false := by rw [beq_eq_false_iff_ne]; omega
  clear hm hu2
  go_enter Tryz.func73, Tryz.ntmps73
  go_wp2
  rw [HU.out]
  go_ret
  exact ⟨rfl, HE.out.1, HE.out.2⟩

set_option maxHeartbeats 1000000 in
theorem step8_zero (w : World) (B I : Nat) (x y z : Value) (h : Nat → Int) (k : Nat) (pc : Int) (p : InsD) (ty : TypeId) (v : Value) (hG : w.cell? ⟨0, 0, none⟩ = some (.iface ty v)) (hGB : 0 ≠ B) (hm : MacC w B x y z 0 h k pc) (hB : B < w.heap.size) (hI : I < w.heap.size) (hIB : I ≠ B) (hi : CellI w I 0 p) :
    Calls Tryz.prog 72 #[.pointer (some ⟨B, 0, none⟩), .pointer (some ⟨I, 0, none⟩)] w fun e w' => e = .returned (.iface ty v) ∧ MacC w' B x y z 0 h k p.n ∧ Out B (B + 1) w w' := by
  have m1 := hm.setPc p.n
  have o1 := out_set w B 17 (.int .i64 p.n)
  obtain ⟨u1, hu1⟩ : ∃ u1, w.setCell ⟨B, 17, none⟩ (.int .i64 p.n) = u1 := ⟨_, rfl⟩
  rw [hu1] at m1 o1
  have HU : Hid (_ = u1) := hu1
  have cp := hm.cp
  have fp := hm.f_ 17
  obtain ⟨c0, c1, c2, c3⟩ := hi
  have c1 : w.cell? ⟨I, 1, none⟩ = _ := c1
  have hT := takeM_zero u1 B x y z h k p.n ty v m1 (by rw [← hu1, cell_set_other _ (.inl hGB)]; exact hG)
  have HM : Hid (MacC u1 B x y z 0 h k p.n ∧ Out B (B + 1) w u1) := ⟨m1, o1⟩
  clear hm c0 c2 c3 hu1 m1 o1
  go_enter Tryz.func72, Tryz.ntmps72
  go_wp2_with fail
  rw [HU.out]
  refine hT.mono ?_
  rintro e1 u2 ⟨rfl, rfl⟩
  clear hT
  go_wp2
  go_ret
  exact ⟨rfl, HM.out.1, HM.out.2⟩

set_option maxHeartbeats 1000000 in
theorem step8_some (w : World) (B I : Nat) (x y z : Value) (h : Nat → Int) (k : Nat) (pc : Int) (p : InsD) (f : Nat) (hf : f ≤ 100) (hm : MacC w B x y z ((f : Int) + 1) h k pc) (hB : B < w.heap.size) (hI : I < w.heap.size) (hIB : I ≠ B) (hi : CellI w I 0 p) :
    Calls Tryz.prog 72 #[.pointer (some ⟨B, 0, none⟩), .pointer (some ⟨I, 0, none⟩)] w fun e w' => e = .returned .nilIface ∧ MacC w' B x y z f h k p.n ∧ Out B (B + 1) w w' := by
  have m1 := hm.setPc p.n
  have o1 := out_set w B 17 (.int .i64 p.n)
  obtain ⟨u1, hu1⟩ : ∃ u1, w.setCell ⟨B, 17, none⟩ (.int .i64 p.n) = u1 := ⟨_, rfl⟩
  rw [hu1] at m1 o1
  have HU : Hid (_ = u1) := hu1
  have cp := hm.cp
  have fp := hm.f_ 17
  obtain ⟨c0, c1, c2, c3⟩ := hi
  have c1 : w.cell? ⟨I, 1, none⟩ = _ := c1
  have hT := takeM_some u1 B x y z h k p.n f hf m1
  have HM : Hid (MacC u1 B x y z ((f : Int) + 1) h k p.n ∧ Out B (B + 1) w u1) := ⟨m1, o1⟩
  clear hm c0 c2 c3 hu1 m1 o1
  go_enter Tryz.func72, Tryz.ntmps72
  go_wp2_with fail
  rw [HU.out]
  refine hT.mono ?_
  rintro e1 u2 ⟨rfl, m2, o2⟩
  have HE : Hid (MacC u2 B x y z f h k p.n ∧ Out B (B + 1) w u2) := ⟨m2, HM.out.2.trans o2⟩
  clear hT m2 o2
  go_wp2
  go_ret
  exact ⟨rfl, HE.out.1, HE.out.2⟩
end Go.Proofs.YtdhpbiplkjpiiaaGreatDoor
