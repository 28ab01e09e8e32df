/-
  What the steps of code do to what turns. (Written by our generator gen_mac.py.)
-/
import Derived.Test.YtdhpbiplkjpiiaaGreatDoorMacA
import Derived.Test.YtdhpbiplkjpiiaaGreatDoorDag2
import Derived.Test.YtdhpbiplkjpiiaaGreatDoorComesB
import Derived.Test.YtdhpbiplkjpiiaaGreatDoorImplH
import Derived.Test.YtdhpbiplkjpiiaaGreatDoorInsData
namespace Go.Proofs.YtdhpbiplkjpiiaaGreatDoor
open Go.ChangeShapes Go.WideShapes Go.ChangeAt Go.RowKit
set_option linter.unusedVariables false
set_option maxRecDepth 100000

theorem mac_getD_ne {L : Array Bool} {i k : Nat} (h : k ≠ i) : (L.setIfInBounds k true).getD i true = L.getD i true := by
  simp [Array.getD_eq_getD_getElem?, h]

theorem mac_getD_self {L : Array Bool} {i : Nat} (h : i < L.size) : (L.setIfInBounds i true).getD i true = true := by
  simp [Array.getD_eq_getD_getElem?, h]

/-- What stands ahead of operation i, between i and j, behind j. -/
structure JM (S0 S1 S2 : World → Prop) (i j : Nat) (L : Array Bool) (u : World) : Prop where
  a : L.getD i true = false → S0 u
  b : L.getD i true = true → L.getD j true = false → S1 u
  c : L.getD j true = true → S2 u

theorem JM.other {S0 S1 S2 : World → Prop} {i j k : Nat} {L : Array Bool} {u u' : World} (h : JM S0 S1 S2 i j L u) (h1 : k ≠ i) (h2 : k ≠ j) (m0 : S0 u → S0 u') (m1 : S1 u → S1 u') (m2 : S2 u → S2 u') :
    JM S0 S1 S2 i j (L.setIfInBounds k true) u' := by
  refine ⟨?_, ?_, ?_⟩
  all_goals simp only [mac_getD_ne h1, mac_getD_ne h2]
  · exact fun e => m0 (h.a e)
  · exact fun e f => m1 (h.b e f)
  · exact fun e => m2 (h.c e)

theorem JM.one {S0 S1 S2 : World → Prop} {i j : Nat} {L : Array Bool} {u' : World} (hi : i < L.size) (hij : i ≠ j) (hj : L.getD j true = false) (s1 : S1 u') : JM S0 S1 S2 i j (L.setIfInBounds i true) u' := by
  refine ⟨?_, ?_, ?_⟩
  all_goals simp only [mac_getD_self hi, mac_getD_ne hij, hj]
  · exact fun e => by cases e
  · exact fun _ _ => s1
  · exact fun e => by cases e

theorem JM.two {S0 S1 S2 : World → Prop} {i j : Nat} {L : Array Bool} {u' : World} (hj : j < L.size) (hij : j ≠ i) (hi : L.getD i true = true) (s2 : S2 u') : JM S0 S1 S2 i j (L.setIfInBounds j true) u' := by
  refine ⟨?_, ?_, ?_⟩
  all_goals simp only [mac_getD_self hj, mac_getD_ne hij, hi]
  · exact fun e => by cases e
  · exact fun _ e => by cases e
  · exact fun _ => s2

theorem JM.only {S0 S1 S2 : World → Prop} {i : Nat} {L : Array Bool} {u' : World} (hi : i < L.size) (s2 : S2 u') : JM S0 S1 S2 i i (L.setIfInBounds i true) u' := by
  refine ⟨?_, ?_, ?_⟩
  all_goals simp only [mac_getD_self hi]
  · exact fun e => by cases e
  · exact fun _ e => by cases e
  · exact fun _ => s2

theorem out_refl (B : Nat) (w : World) : Out B (B + 1) w w := out_of_below (Below.refl _ _) _ _
theorem out_drew (B : Nat) (w : World) : Out B (B + 1) w w.drew := out_of_below (Below.drew (Below.refl _ _)) _ _
theorem MacC.below {u u' : World} {B : Nat} {x y z : Value} {f : Int} {h : Nat → Int} {many pc : Int} (k : MacC u B x y z f h many pc) (hb : Below u.heap.size u u') (hB : B < u.heap.size) : MacC u' B x y z f h many pc := k.at_ (hb.block B hB)

set_option maxHeartbeats 2000000 in
theorem step1_any (w : World) (B I : Nat) (x y z : Value) (f : Int) (h : Nat → Int) (k : Nat) (pc : Int) (p : InsD) (hm : MacC w B x y z f h k pc) (hk : k < 12) (hB : B < w.heap.size) (hI : I < w.heap.size) (hIB : I ≠ B) (hi : CellI w I 0 p) :
    Calls Tryz.prog 58 #[.pointer (some ⟨B, 0, none⟩), .pointer (some ⟨I, 0, none⟩)] w fun e w' => e = .returned .nilIface ∧ MacC w' B x y z f (upd h k p.n) ((k : Int) + 1) pc ∧ Out B (B + 1) w w' := by
  have HM : Hid (MacC w.drew B x y z f h k pc) := hm.at_ rfl
  have HI : Hid (CellI w I 0 p) := hi
  have HR0 : Hid (Out B (B + 1) w w) := out_refl _ _
  clear hm hi
  go_enter Tryz.func58, Tryz.ntmps58
  go_wp2_with fail
  refine wp_region_dagC (R := Out B (B + 1)) (Φ := fun i v u => match i with
      | 0 => v = .pointer (some ⟨B, 0, none⟩)
      | 1 => v = .pointer (some ⟨B, 0, none⟩)
      | 2 => v = .pointer (some ⟨B, 4, none⟩)
      | 3 => v = .pointer (some ⟨I, 1, none⟩)
      | 4 => v = .int .i64 p.n
      | 5 => True
      | _ => True)
    (J := fun L ac u => JM (fun u => MacC u B x y z f h k pc) (fun _ => True) (fun u => MacC u B x y z f (upd h k p.n) ((k : Int) + 1) pc) 5 5 L u) (by kernel_rfl) (by kernel_rfl) (by kernel_rfl) (out_refl _ _) (fun _ _ _ h k => h.trans k) ?_ ⟨fun _ => HM.out, fun e => by simp at e, fun e => by simp at e⟩ ?_ ?_
  · intro i v u u' hr
    match i with
    | 0 | 1 | 2 | 3 | 4 | 5 | _ + 6 => exact fun h => h
  · intro i o ho L ac u hf hR0 hLs hLi hcl hp he hJ K' hK
    have hR : Out B (B + 1) w u := HR0.out.trans ((out_drew _ _).trans hR0)
    have hsz' : ac.tmps.size = 10 := hf.size
    have hus := hR.size
    have hLs : L.size = 6 := hLs
    rcases i with _ | _ | _ | _ | _ | _ | i
    · obtain rfl := Option.some.inj ho
      have q0 : ac.tmps.getD 0 undef = .pointer (some ⟨B, 0, none⟩) := hf.at_ 0 (by kernel_rfl)
      clear hp he
      go_simp
      exact hK _ _ (out_refl _ _) (getD_put_self ac 4 _ (by show _ < ac.tmps.size; omega)) (hJ.other (by decide) (by decide) id id id)
    · obtain rfl := Option.some.inj ho
      have q4 : ac.tmps.getD 4 undef = .pointer (some ⟨B, 0, none⟩) := hp 0 _ rfl (he _ (Array.mem_of_getElem? (i := 0) rfl) (by kernel_rfl))
      clear hp he
      go_simp
      exact hK _ _ (out_refl _ _) (getD_put_self ac 5 _ (by show _ < ac.tmps.size; omega)) (hJ.other (by decide) (by decide) id id id)
    · obtain rfl := Option.some.inj ho
      have q5 : ac.tmps.getD 5 undef = .pointer (some ⟨B, 0, none⟩) := hp 1 _ rfl (he _ (Array.mem_of_getElem? (i := 0) rfl) (by kernel_rfl))
      clear hp he
      go_simp
      exact hK _ _ (out_refl _ _) (getD_put_self ac 6 _ (by show _ < ac.tmps.size; omega)) (hJ.other (by decide) (by decide) id id id)
    · obtain rfl := Option.some.inj ho
      have q1 : ac.tmps.getD 1 undef = .pointer (some ⟨I, 0, none⟩) := hf.at_ 1 (by kernel_rfl)
      clear hp he
      go_simp
      exact hK _ _ (out_refl _ _) (getD_put_self ac 7 _ (by show _ < ac.tmps.size; omega)) (hJ.other (by decide) (by decide) id id id)
    · obtain rfl := Option.some.inj ho
      have q7 : ac.tmps.getD 7 undef = .pointer (some ⟨I, 1, none⟩) := hp 3 _ rfl (he _ (Array.mem_of_getElem? (i := 0) rfl) (by kernel_rfl))
      obtain ⟨c0, c1, c2, c3⟩ := HI.out.kept (hR.block I hI (by omega))
      have c1 : u.cell? ⟨I, 1, none⟩ = _ := c1
      have c2 : u.cell? ⟨I, 2, none⟩ = _ := c2
      have c3 : u.cell? ⟨I, 3, none⟩ = _ := c3
      clear hp he
      go_simp
      exact hK _ _ (out_refl _ _) (getD_put_self ac 8 _ (by show _ < ac.tmps.size; omega)) (hJ.other (by decide) (by decide) id id id)
    · obtain rfl := Option.some.inj ho
      have q6 : ac.tmps.getD 6 undef = .pointer (some ⟨B, 4, none⟩) := hp 2 _ rfl (he _ (Array.mem_of_getElem? (i := 0) rfl) (by kernel_rfl))
      have q8 : ac.tmps.getD 8 undef = .int .i64 p.n := hp 4 _ rfl (he _ (Array.mem_of_getElem? (i := 1) rfl) (by kernel_rfl))
      have hM := hJ.a hLi
      clear hp he
      go_simp
      refine (push_any _ _ _ _ _ _ _ _ _ _ hM hk).mono ?_
      rintro e1 u' ⟨rfl, m1, o1⟩
      exact hK _ _ o1 trivial (JM.only (by omega) m1)
    · exact absurd ho (by simp)
  · intro L ac u hf hR0 hp hJ
    have hR : Out B (B + 1) w u := HR0.out.trans ((out_drew _ _).trans hR0)
    have hS := hJ.c (hp 5 _ rfl).1
    have HE : Hid (_ ∧ Out B (B + 1) w u) := ⟨hS, hR⟩
    clear HM HI
    clear hp hJ hR0 hR hS
    obtain ⟨fq, ea, hfv⟩ := act_lit ac 10 hf.size
    have md : ac.defers = [] := hf.defers
    rw [md] at ea
    have m0 := hf.at_ 0 (by kernel_rfl)
    have m1 := hf.at_ 1 (by kernel_rfl)
    have m2 := hf.at_ 2 (by kernel_rfl)
    have m3 := hf.at_ 3 (by kernel_rfl)
    rw [← hfv] at m0 m1 m2 m3
    simp only [Array.getD_eq_getD_getElem?, List.getElem?_toArray, List.getElem?_cons_succ, List.getElem?_cons_zero, Option.getD_some] at m0 m1 m2 m3
    simp only [List.range, List.range.loop, List.map_cons, List.map_nil, m0, m1, m2, m3] at ea
    subst ea
    clear m0 m1 m2 m3 hfv md hf
    go_wp2
    go_ret
    exact ⟨rfl, HE.out.1, HE.out.2⟩
set_option maxHeartbeats 2000000 in
theorem step2_any (w : World) (B I : Nat) (x y z : Value) (f : Int) (h : Nat → Int) (k : Nat) (pc : Int) (p : InsD) (d : MemD) (lo hh : Nat) (hmi : MI w lo hh (.agg #[x, y, z]) d) (hhi : hh ≤ w.heap.size) (hap : B < lo ∨ hh ≤ B) (hm : MacC w B x y z f h k pc) (hk : k < 12) (hB : B < w.heap.size) (hI : I < w.heap.size) (hIB : I ≠ B) (hi : CellI w I 0 p) :
    Calls Tryz.prog 60 #[.pointer (some ⟨B, 0, none⟩), .pointer (some ⟨I, 0, none⟩)] w fun e w' => e = .returned .nilIface ∧ MacC w' B x y z f (upd h k (memGet d ⟨p.ak, p.at_⟩)) ((k : Int) + 1) pc ∧ Out B (B + 1) w w' := by
  have HM : Hid (MacC w.drew B x y z f h k pc) := hm.at_ rfl
  have HI : Hid (CellI w I 0 p) := hi
  have HR0 : Hid (Out B (B + 1) w w) := out_refl _ _
  have HMI : Hid (MI w lo hh (.agg #[x, y, z]) d) := hmi
  clear hm hi hmi
  go_enter Tryz.func60, Tryz.ntmps60
  go_wp2_with fail
  refine wp_region_dagC (R := Out B (B + 1)) (Φ := fun i v u => match i with
      | 0 => v = .pointer (some ⟨B, 0, none⟩)
      | 1 => v = .pointer (some ⟨B, 0, none⟩)
      | 2 => v = .pointer (some ⟨B, 4, none⟩)
      | 3 => v = .pointer (some ⟨B, 0, none⟩)
      | 4 => v = .pointer (some ⟨B, 0, none⟩)
      | 5 => v = .pointer (some ⟨B, 0, none⟩)
      | 6 => v = .pointer (some ⟨B, 0, none⟩)
      | 7 => v = .agg #[x, y, z]
      | 8 => v = .pointer (some ⟨I, 2, none⟩)
      | 9 => v = .agg #[.int .i64 p.ak, .int .i64 p.at_]
      | 10 => v = .int .i64 (memGet d ⟨p.ak, p.at_⟩)
      | 11 => True
      | _ => True)
    (J := fun L ac u => JM (fun u => MacC u B x y z f h k pc) (fun _ => True) (fun u => MacC u B x y z f (upd h k (memGet d ⟨p.ak, p.at_⟩)) ((k : Int) + 1) pc) 11 11 L u) (by kernel_rfl) (by kernel_rfl) (by kernel_rfl) (out_refl _ _) (fun _ _ _ h k => h.trans k) ?_ ⟨fun _ => HM.out, fun e => by simp at e, fun e => by simp at e⟩ ?_ ?_
  · intro i v u u' hr
    match i with
    | 0 | 1 | 2 | 3 | 4 | 5 | 6 | 7 | 8 | 9 | 10 | 11 | _ + 12 => exact fun h => h
  · intro i o ho L ac u hf hR0 hLs hLi hcl hp he hJ K' hK
    have hR : Out B (B + 1) w u := HR0.out.trans ((out_drew _ _).trans hR0)
    have hsz' : ac.tmps.size = 16 := hf.size
    have hus := hR.size
    have hLs : L.size = 12 := hLs
    rcases i with _ | _ | _ | _ | _ | _ | _ | _ | _ | _ | _ | _ | i
    · obtain rfl := Option.some.inj ho
      have q0 : ac.tmps.getD 0 undef = .pointer (some ⟨B, 0, none⟩) := hf.at_ 0 (by kernel_rfl)
      clear hp he
      go_simp
      exact hK _ _ (out_refl _ _) (getD_put_self ac 4 _ (by show _ < ac.tmps.size; omega)) (hJ.other (by decide) (by decide) id id id)
    · obtain rfl := Option.some.inj ho
      have q4 : ac.tmps.getD 4 undef = .pointer (some ⟨B, 0, none⟩) := hp 0 _ rfl (he _ (Array.mem_of_getElem? (i := 0) rfl) (by kernel_rfl))
      clear hp he
      go_simp
      exact hK _ _ (out_refl _ _) (getD_put_self ac 5 _ (by show _ < ac.tmps.size; omega)) (hJ.other (by decide) (by decide) id id id)
    · obtain rfl := Option.some.inj ho
      have q5 : ac.tmps.getD 5 undef = .pointer (some ⟨B, 0, none⟩) := hp 1 _ rfl (he _ (Array.mem_of_getElem? (i := 0) rfl) (by kernel_rfl))
      clear hp he
      go_simp
      exact hK _ _ (out_refl _ _) (getD_put_self ac 6 _ (by show _ < ac.tmps.size; omega)) (hJ.other (by decide) (by decide) id id id)
    · obtain rfl := Option.some.inj ho
      have q0 : ac.tmps.getD 0 undef = .pointer (some ⟨B, 0, none⟩) := hf.at_ 0 (by kernel_rfl)
      clear hp he
      go_simp
      exact hK _ _ (out_refl _ _) (getD_put_self ac 7 _ (by show _ < ac.tmps.size; omega)) (hJ.other (by decide) (by decide) id id id)
    · obtain rfl := Option.some.inj ho
      have q7 : ac.tmps.getD 7 undef = .pointer (some ⟨B, 0, none⟩) := hp 3 _ rfl (he _ (Array.mem_of_getElem? (i := 0) rfl) (by kernel_rfl))
      clear hp he
      go_simp
      exact hK _ _ (out_refl _ _) (getD_put_self ac 8 _ (by show _ < ac.tmps.size; omega)) (hJ.other (by decide) (by decide) id id id)
    · obtain rfl := Option.some.inj ho
      have q8 : ac.tmps.getD 8 undef = .pointer (some ⟨B, 0, none⟩) := hp 4 _ rfl (he _ (Array.mem_of_getElem? (i := 0) rfl) (by kernel_rfl))
      clear hp he
      go_simp
      exact hK _ _ (out_refl _ _) (getD_put_self ac 9 _ (by show _ < ac.tmps.size; omega)) (hJ.other (by decide) (by decide) id id id)
    · obtain rfl := Option.some.inj ho
      have q9 : ac.tmps.getD 9 undef = .pointer (some ⟨B, 0, none⟩) := hp 5 _ rfl (he _ (Array.mem_of_getElem? (i := 0) rfl) (by kernel_rfl))
      clear hp he
      go_simp
      exact hK _ _ (out_refl _ _) (getD_put_self ac 10 _ (by show _ < ac.tmps.size; omega)) (hJ.other (by decide) (by decide) id id id)
    · obtain rfl := Option.some.inj ho
      have q10 : ac.tmps.getD 10 undef = .pointer (some ⟨B, 0, none⟩) := hp 6 _ rfl (he _ (Array.mem_of_getElem? (i := 0) rfl) (by kernel_rfl))
      have n10 : L.getD 10 true = false := hcl.not (i := 10) (j := 7) (by kernel_rfl) hLi
      have n11 : L.getD 11 true = false := hcl.not (i := 11) (j := 10) (by kernel_rfl) n10
      have hnw := n11
      have hM := hJ.a hnw
      have c0 := hM.c0
      have c1 := hM.c1
      have c2 := hM.c2
      clear hM
      clear hp he
      go_simp
      exact hK _ _ (out_refl _ _) (getD_put_self ac 11 _ (by show _ < ac.tmps.size; omega)) (hJ.other (by decide) (by decide) id id id)
    · obtain rfl := Option.some.inj ho
      have q1 : ac.tmps.getD 1 undef = .pointer (some ⟨I, 0, none⟩) := hf.at_ 1 (by kernel_rfl)
      clear hp he
      go_simp
      exact hK _ _ (out_refl _ _) (getD_put_self ac 12 _ (by show _ < ac.tmps.size; omega)) (hJ.other (by decide) (by decide) id id id)
    · obtain rfl := Option.some.inj ho
      have q12 : ac.tmps.getD 12 undef = .pointer (some ⟨I, 2, none⟩) := hp 8 _ rfl (he _ (Array.mem_of_getElem? (i := 0) rfl) (by kernel_rfl))
      obtain ⟨c0, c1, c2, c3⟩ := HI.out.kept (hR.block I hI (by omega))
      have c1 : u.cell? ⟨I, 1, none⟩ = _ := c1
      have c2 : u.cell? ⟨I, 2, none⟩ = _ := c2
      have c3 : u.cell? ⟨I, 3, none⟩ = _ := c3
      clear hp he
      go_simp
      exact hK _ _ (out_refl _ _) (getD_put_self ac 13 _ (by show _ < ac.tmps.size; omega)) (hJ.other (by decide) (by decide) id id id)
    · obtain rfl := Option.some.inj ho
      have q11 : ac.tmps.getD 11 undef = .agg #[x, y, z] := hp 7 _ rfl (he _ (Array.mem_of_getElem? (i := 0) rfl) (by kernel_rfl))
      have q13 : ac.tmps.getD 13 undef = .agg #[.int .i64 p.ak, .int .i64 p.at_] := hp 9 _ rfl (he _ (Array.mem_of_getElem? (i := 1) rfl) (by kernel_rfl))
      clear hp he
      go_simp
      refine (iMemGet_any _ _ _ _ d p.ak p.at_ (HMI.out.out hR hhi (by omega)) (by omega)).mono ?_
      rintro e1 u' ⟨rfl, hbu⟩
      exact hK _ _ (out_of_below hbu _ _) (getD_put_self ac 14 _ (by show _ < ac.tmps.size; omega)) (hJ.other (by decide) (by decide) (fun k => k.below hbu (by omega)) (fun k => k) (fun k => k.below hbu (by omega)))
    · obtain rfl := Option.some.inj ho
      have q6 : ac.tmps.getD 6 undef = .pointer (some ⟨B, 4, none⟩) := hp 2 _ rfl (he _ (Array.mem_of_getElem? (i := 0) rfl) (by kernel_rfl))
      have q14 : ac.tmps.getD 14 undef = .int .i64 (memGet d ⟨p.ak, p.at_⟩) := hp 10 _ rfl (he _ (Array.mem_of_getElem? (i := 1) rfl) (by kernel_rfl))
      have hM := hJ.a hLi
      clear hp he
      go_simp
      refine (push_any _ _ _ _ _ _ _ _ _ _ hM hk).mono ?_
      rintro e1 u' ⟨rfl, m1, o1⟩
      exact hK _ _ o1 trivial (JM.only (by omega) m1)
    · exact absurd ho (by simp)
  · intro L ac u hf hR0 hp hJ
    have hR : Out B (B + 1) w u := HR0.out.trans ((out_drew _ _).trans hR0)
    have hS := hJ.c (hp 11 _ rfl).1
    have HE : Hid (_ ∧ Out B (B + 1) w u) := ⟨hS, hR⟩
    clear HM HI HMI
    clear hp hJ hR0 hR hS
    obtain ⟨fq, ea, hfv⟩ := act_lit ac 16 hf.size
    have md : ac.defers = [] := hf.defers
    rw [md] at ea
    have m0 := hf.at_ 0 (by kernel_rfl)
    have m1 := hf.at_ 1 (by kernel_rfl)
    have m2 := hf.at_ 2 (by kernel_rfl)
    have m3 := hf.at_ 3 (by kernel_rfl)
    rw [← hfv] at m0 m1 m2 m3
    simp only [Array.getD_eq_getD_getElem?, List.getElem?_toArray, List.getElem?_cons_succ, List.getElem?_cons_zero, Option.getD_some] at m0 m1 m2 m3
    simp only [List.range, List.range.loop, List.map_cons, List.map_nil, m0, m1, m2, m3] at ea
    subst ea
    clear m0 m1 m2 m3 hfv md hf
    go_wp2
    go_ret
    exact ⟨rfl, HE.out.1, HE.out.2⟩
set_option maxHeartbeats 2000000 in
theorem step5_any (w : World) (B : Nat) (x y z : Value) (f : Int) (h : Nat → Int) (k : Nat) (pc : Int) (hm : MacC w B x y z f h ((k : Int) + 1) pc) (hk : k < 12) (hB : B < w.heap.size) :
    Calls Tryz.prog 67 #[.pointer (some ⟨B, 0, none⟩)] w fun e w' => e = .returned .nilIface ∧ MacC w' B x y z f (upd h k (isZ (!(h k != 0)))) ((k : Int) + 1) pc ∧ Out B (B + 1) w w' := by
  have HM : Hid (MacC w.drew B x y z f h ((k : Int) + 1) pc) := hm.at_ rfl
  have HR0 : Hid (Out B (B + 1) w w) := out_refl _ _
  clear hm
  go_enter Tryz.func67, Tryz.ntmps67
  go_wp2_with fail
  refine wp_region_dagC (R := Out B (B + 1)) (Φ := fun i v u => match i with
      | 0 => v = .pointer (some ⟨B, 0, none⟩)
      | 1 => v = .pointer (some ⟨B, 0, none⟩)
      | 2 => v = .pointer (some ⟨B, 4, none⟩)
      | 3 => v = .pointer (some ⟨B, 0, none⟩)
      | 4 => v = .pointer (some ⟨B, 0, none⟩)
      | 5 => v = .pointer (some ⟨B, 4, none⟩)
      | 6 => v = .int .i64 (h k)
      | 7 => v = .bool (h k != 0)
      | 8 => v = .bool (!(h k != 0))
      | 9 => v = .int .i64 (isZ (!(h k != 0)))
      | 10 => True
      | _ => True)
    (J := fun L ac u => JM (fun u => MacC u B x y z f h ((k : Int) + 1) pc) (fun u => MacC u B x y z f h k pc) (fun u => MacC u B x y z f (upd h k (isZ (!(h k != 0)))) ((k : Int) + 1) pc) 6 10 L u) (by kernel_rfl) (by kernel_rfl) (by kernel_rfl) (out_refl _ _) (fun _ _ _ h k => h.trans k) ?_ ⟨fun _ => HM.out, fun e => by simp at e, fun e => by simp at e⟩ ?_ ?_
  · intro i v u u' hr
    match i with
    | 0 | 1 | 2 | 3 | 4 | 5 | 6 | 7 | 8 | 9 | 10 | _ + 11 => exact fun h => h
  · intro i o ho L ac u hf hR0 hLs hLi hcl hp he hJ K' hK
    have hR : Out B (B + 1) w u := HR0.out.trans ((out_drew _ _).trans hR0)
    have hsz' : ac.tmps.size = 14 := hf.size
    have hus := hR.size
    have hLs : L.size = 11 := hLs
    rcases i with _ | _ | _ | _ | _ | _ | _ | _ | _ | _ | _ | i
    · obtain rfl := Option.some.inj ho
      have q0 : ac.tmps.getD 0 undef = .pointer (some ⟨B, 0, none⟩) := hf.at_ 0 (by kernel_rfl)
      clear hp he
      go_simp
      exact hK _ _ (out_refl _ _) (getD_put_self ac 3 _ (by show _ < ac.tmps.size; omega)) (hJ.other (by decide) (by decide) id id id)
    · obtain rfl := Option.some.inj ho
      have q3 : ac.tmps.getD 3 undef = .pointer (some ⟨B, 0, none⟩) := hp 0 _ rfl (he _ (Array.mem_of_getElem? (i := 0) rfl) (by kernel_rfl))
      clear hp he
      go_simp
      exact hK _ _ (out_refl _ _) (getD_put_self ac 4 _ (by show _ < ac.tmps.size; omega)) (hJ.other (by decide) (by decide) id id id)
    · obtain rfl := Option.some.inj ho
      have q4 : ac.tmps.getD 4 undef = .pointer (some ⟨B, 0, none⟩) := hp 1 _ rfl (he _ (Array.mem_of_getElem? (i := 0) rfl) (by kernel_rfl))
      clear hp he
      go_simp
      exact hK _ _ (out_refl _ _) (getD_put_self ac 5 _ (by show _ < ac.tmps.size; omega)) (hJ.other (by decide) (by decide) id id id)
    · obtain rfl := Option.some.inj ho
      have q0 : ac.tmps.getD 0 undef = .pointer (some ⟨B, 0, none⟩) := hf.at_ 0 (by kernel_rfl)
      clear hp he
      go_simp
      exact hK _ _ (out_refl _ _) (getD_put_self ac 6 _ (by show _ < ac.tmps.size; omega)) (hJ.other (by decide) (by decide) id id id)
    · obtain rfl := Option.some.inj ho
      have q6 : ac.tmps.getD 6 undef = .pointer (some ⟨B, 0, none⟩) := hp 3 _ rfl (he _ (Array.mem_of_getElem? (i := 0) rfl) (by kernel_rfl))
      clear hp he
      go_simp
      exact hK _ _ (out_refl _ _) (getD_put_self ac 7 _ (by show _ < ac.tmps.size; omega)) (hJ.other (by decide) (by decide) id id id)
    · obtain rfl := Option.some.inj ho
      have q7 : ac.tmps.getD 7 undef = .pointer (some ⟨B, 0, none⟩) := hp 4 _ rfl (he _ (Array.mem_of_getElem? (i := 0) rfl) (by kernel_rfl))
      clear hp he
      go_simp
      exact hK _ _ (out_refl _ _) (getD_put_self ac 8 _ (by show _ < ac.tmps.size; omega)) (hJ.other (by decide) (by decide) id id id)
    · obtain rfl := Option.some.inj ho
      have q8 : ac.tmps.getD 8 undef = .pointer (some ⟨B, 4, none⟩) := hp 5 _ rfl (he _ (Array.mem_of_getElem? (i := 0) rfl) (by kernel_rfl))
      have n7 : L.getD 7 true = false := hcl.not (i := 7) (j := 6) (by kernel_rfl) hLi
      have n9 : L.getD 9 true = false := hcl.not (i := 9) (j := 7) (by kernel_rfl) n7
      have n10 : L.getD 10 true = false := hcl.not (i := 10) (j := 9) (by kernel_rfl) n9
      have hn10 := n10
      have hM := hJ.a hLi
      clear hp he
      go_simp
      refine (pop_any _ _ _ _ _ _ _ _ _ hM hk).mono ?_
      rintro e1 u' ⟨rfl, m1, o1⟩
      exact hK _ _ o1 (getD_put_self ac 9 _ (by show _ < ac.tmps.size; omega)) (JM.one (by omega) (by decide) hn10 m1)
    · obtain rfl := Option.some.inj ho
      have q9 : ac.tmps.getD 9 undef = .int .i64 (h k) := hp 6 _ rfl (he _ (Array.mem_of_getElem? (i := 0) rfl) (by kernel_rfl))
      clear hp he
      go_simp
      refine (numOn_any _ _).mono ?_
      rintro e1 u' ⟨rfl, rfl⟩
      exact hK _ _ (out_refl _ _) (getD_put_self ac 10 _ (by show _ < ac.tmps.size; omega)) (hJ.other (by decide) (by decide) id id id)
    · obtain rfl := Option.some.inj ho
      have q10 : ac.tmps.getD 10 undef = .bool (h k != 0) := hp 7 _ rfl (he _ (Array.mem_of_getElem? (i := 0) rfl) (by kernel_rfl))
      clear hp he
      go_simp
      exact hK _ _ (out_refl _ _) (getD_put_self ac 11 _ (by show _ < ac.tmps.size; omega)) (hJ.other (by decide) (by decide) id id id)
    · obtain rfl := Option.some.inj ho
      have q11 : ac.tmps.getD 11 undef = .bool (!(h k != 0)) := hp 8 _ rfl (he _ (Array.mem_of_getElem? (i := 0) rfl) (by kernel_rfl))
      clear hp he
      go_simp
      refine (numIs_any _ _).mono ?_
      rintro e1 u' ⟨rfl, rfl⟩
      exact hK _ _ (out_refl _ _) (getD_put_self ac 12 _ (by show _ < ac.tmps.size; omega)) (hJ.other (by decide) (by decide) id id id)
    · obtain rfl := Option.some.inj ho
      have q5 : ac.tmps.getD 5 undef = .pointer (some ⟨B, 4, none⟩) := hp 2 _ rfl (he _ (Array.mem_of_getElem? (i := 0) rfl) (by kernel_rfl))
      have q12 : ac.tmps.getD 12 undef = .int .i64 (isZ (!(h k != 0))) := hp 9 _ rfl (he _ (Array.mem_of_getElem? (i := 1) rfl) (by kernel_rfl))
      have e9 : L.getD 9 true = true := he _ (Array.mem_of_getElem? (i := 1) rfl) (by kernel_rfl)
      have e7 : L.getD 7 true = true := hcl.wait (i := 9) (j := 7) (by kernel_rfl) e9
      have e6 : L.getD 6 true = true := hcl.wait (i := 7) (j := 6) (by kernel_rfl) e7
      have hM := hJ.b e6 hLi
      clear hp he
      go_simp
      refine (push_any _ _ _ _ _ _ _ _ _ _ hM hk).mono ?_
      rintro e1 u' ⟨rfl, m1, o1⟩
      exact hK _ _ o1 trivial (JM.two (by omega) (by decide) e6 m1)
    · exact absurd ho (by simp)
  · intro L ac u hf hR0 hp hJ
    have hR : Out B (B + 1) w u := HR0.out.trans ((out_drew _ _).trans hR0)
    have hS := hJ.c (hp 10 _ rfl).1
    have HE : Hid (_ ∧ Out B (B + 1) w u) := ⟨hS, hR⟩
    clear HM
    clear hp hJ hR0 hR hS
    obtain ⟨fq, ea, hfv⟩ := act_lit ac 14 hf.size
    have md : ac.defers = [] := hf.defers
    rw [md] at ea
    have m0 := hf.at_ 0 (by kernel_rfl)
    have m1 := hf.at_ 1 (by kernel_rfl)
    have m2 := hf.at_ 2 (by kernel_rfl)
    rw [← hfv] at m0 m1 m2
    simp only [Array.getD_eq_getD_getElem?, List.getElem?_toArray, List.getElem?_cons_succ, List.getElem?_cons_zero, Option.getD_some] at m0 m1 m2
    simp only [List.range, List.range.loop, List.map_cons, List.map_nil, m0, m1, m2] at ea
    subst ea
    clear m0 m1 m2 hfv md hf
    go_wp2
    go_ret
    exact ⟨rfl, HE.out.1, HE.out.2⟩
set_option maxHeartbeats 2000000 in
theorem step7_any (w : World) (B I : Nat) (x y z : Value) (f : Int) (h : Nat → Int) (k : Nat) (pc : Int) (p : InsD) (hm : MacC w B x y z f h k pc) (hB : B < w.heap.size) (hI : I < w.heap.size) (hIB : I ≠ B) (hi : CellI w I 0 p) :
    Calls Tryz.prog 71 #[.pointer (some ⟨B, 0, none⟩), .pointer (some ⟨I, 0, none⟩)] w fun e w' => e = .returned .nilIface ∧ MacC w' B x y z f h k p.n ∧ Out B (B + 1) w w' := by
  have HE : Hid (MacC (w.setCell ⟨B, 17, none⟩ (.int .i64 p.n)) B x y z f h k p.n ∧ Out B (B + 1) w (w.setCell ⟨B, 17, none⟩ (.int .i64 p.n))) := ⟨hm.setPc _, out_set _ _ _ _⟩
  have cp := hm.cp
  have fp := hm.f_ 17
  obtain ⟨c0, c1, c2, c3⟩ := hi
  have c1 : w.cell? ⟨I, 1, none⟩ = _ := c1
  clear hm c0 c2 c3
  go_enter Tryz.func71, Tryz.ntmps71
  go_wp2
  go_ret
  exact ⟨rfl, HE.out.1, HE.out.2⟩
set_option maxHeartbeats 2000000 in
theorem step6_any (w : World) (B I : Nat) (x y z : Value) (f : Int) (h : Nat → Int) (k : Nat) (pc : Int) (p : InsD) (hm : MacC w B x y z f h ((k : Int) + 1) pc) (hk : k < 12) (hB : B < w.heap.size) (hI : I < w.heap.size) (hIB : I ≠ B) (hi : CellI w I 0 p) :
    Calls Tryz.prog 70 #[.pointer (some ⟨B, 0, none⟩), .pointer (some ⟨I, 0, none⟩)] w fun e w' => e = .returned .nilIface ∧ MacC w' B x y z f h k (if h k != 0 then pc else p.n) ∧ Out B (B + 1) w w' := by
  have HI : Hid (CellI w I 0 p) := hi
  have hP := pop_any w B x y z f h k pc hm hk
  clear hm hi
  cases hb : (h k != 0) with
  | true =>
    rw [if_pos rfl]
    go_enter Tryz.func70, Tryz.ntmps70
    go_wp2_with fail
    refine hP.mono ?_
    rintro e1 u1 ⟨rfl, m1, o1⟩
    have hO := fun W => numOn_any W (h k)
    rw [hb] at hO
    have HE : Hid (MacC u1 B x y z f h k pc ∧ Out B (B + 1) w u1) := ⟨m1, o1⟩
    clear m1 o1 hP
    go_wp2_with (go_at_call 69; refine (hO _).mono ?_; rintro e w' ⟨rfl, rfl⟩)
    go_ret
    exact ⟨rfl, HE.out.1, HE.out.2⟩
  | false =>
    rw [if_neg (by simp)]
    go_enter Tryz.func70, Tryz.ntmps70
    go_wp2_with fail
    refine hP.mono ?_
    rintro e1 u1 ⟨rfl, m1, o1⟩
    have hO := fun W => numOn_any W (h k)
    rw [hb] at hO
    have HE : Hid (MacC (u1.setCell ⟨B, 17, none⟩ (.int .i64 p.n)) B x y z f h k p.n ∧ Out B (B + 1) w (u1.setCell ⟨B, 17, none⟩ (.int .i64 p.n))) := ⟨m1.setPc _, o1.trans (out_set _ _ _ _)⟩
    have cp := m1.cp
    have fp := m1.f_ 17
    obtain ⟨c0, c1, c2, c3⟩ := HI.out.kept (o1.block I hI (by omega))
    have c1 : u1.cell? ⟨I, 1, none⟩ = _ := c1
    clear m1 o1 hP c0 c2 c3
    go_wp2_with (go_at_call 69; refine (hO _).mono ?_; rintro e w' ⟨rfl, rfl⟩)
    go_ret
    exact ⟨rfl, HE.out.1, HE.out.2⟩
end Go.Proofs.YtdhpbiplkjpiiaaGreatDoor
