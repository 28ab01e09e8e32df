/-
  Chapter 10's program: slimPart, SlimExpr. (Written by our generator gen_slimp.py.)
-/
import Derived.Test.YtkeockippmmneaaGreatSlimP0
import Derived.Test.YtkeockippmmneaaGreatSlimRa
import Derived.Test.YtkeockippmmneaaGreatSlimRb
import Derived.Test.YtkeockippmmneaaGreatSlimRc
import Derived.Test.YtkeockippmmneaaGreatSlimRd
import Derived.Test.YtkeockippmmneaaGreatQS8
namespace Go.Proofs.YtkeockippmmneaaGreat
open Go.ChangeShapes Go.WideShapes Go.ChangeAt Go.RowKit
set_option linter.unusedVariables false
set_option maxRecDepth 100000

def rulesV : List Value := [.func (.func 49) #[] #[], .func (.func 50) #[] #[], .func (.func 51) #[] #[], .func (.func 52) #[] #[], .func (.func 53) #[] #[], .func (.func 54) #[] #[]]
theorem rulesV_one : ∀ v ∈ rulesV, v.oneCell' = true := by
  intro v hv
  simp only [rulesV, List.mem_cons, List.not_mem_nil, or_false] at hv
  rcases hv with rfl | rfl | rfl | rfl | rfl | rfl <;> rfl
theorem zero_rules : (Tryz.prog.info? 80).map (fun i => (i.zero, i.size)) = some (some (.agg [Value.nilFunc, Value.nilFunc, Value.nilFunc, Value.nilFunc, Value.nilFunc, Value.nilFunc].toArray), 6) := by kernel_rfl
theorem rules_index0 (w : World) : (Instr.index 80 (.agg #[.func (.func 49) #[] #[], .func (.func 50) #[] #[], .func (.func 51) #[] #[], .func (.func 52) #[] #[], .func (.func 53) #[] #[], .func (.func 54) #[] #[]]) (.int .i64 0)).run Tryz.prog w = .ok (.func (.func 49) #[] #[]) w := by kernel_rfl
theorem rules_index1 (w : World) : (Instr.index 80 (.agg #[.func (.func 49) #[] #[], .func (.func 50) #[] #[], .func (.func 51) #[] #[], .func (.func 52) #[] #[], .func (.func 53) #[] #[], .func (.func 54) #[] #[]]) (.int .i64 1)).run Tryz.prog w = .ok (.func (.func 50) #[] #[]) w := by kernel_rfl
theorem rules_index2 (w : World) : (Instr.index 80 (.agg #[.func (.func 49) #[] #[], .func (.func 50) #[] #[], .func (.func 51) #[] #[], .func (.func 52) #[] #[], .func (.func 53) #[] #[], .func (.func 54) #[] #[]]) (.int .i64 2)).run Tryz.prog w = .ok (.func (.func 51) #[] #[]) w := by kernel_rfl
theorem rules_index3 (w : World) : (Instr.index 80 (.agg #[.func (.func 49) #[] #[], .func (.func 50) #[] #[], .func (.func 51) #[] #[], .func (.func 52) #[] #[], .func (.func 53) #[] #[], .func (.func 54) #[] #[]]) (.int .i64 3)).run Tryz.prog w = .ok (.func (.func 52) #[] #[]) w := by kernel_rfl
theorem rules_index4 (w : World) : (Instr.index 80 (.agg #[.func (.func 49) #[] #[], .func (.func 50) #[] #[], .func (.func 51) #[] #[], .func (.func 52) #[] #[], .func (.func 53) #[] #[], .func (.func 54) #[] #[]]) (.int .i64 4)).run Tryz.prog w = .ok (.func (.func 53) #[] #[]) w := by kernel_rfl
theorem rules_index5 (w : World) : (Instr.index 80 (.agg #[.func (.func 49) #[] #[], .func (.func 50) #[] #[], .func (.func 51) #[] #[], .func (.func 52) #[] #[], .func (.func 53) #[] #[], .func (.func 54) #[] #[]]) (.int .i64 5)).run Tryz.prog w = .ok (.func (.func 54) #[] #[]) w := by kernel_rfl


theorem Five.at5 {u u' : World} {B : Nat} {v0 v1 v2 v3 v4 : Value} (h : Five u B v0 v1 v2 v3 v4) (hk : u'.heap[B]? = u.heap[B]?) : Five u' B v0 v1 v2 v3 v4 :=
  ⟨by rw [World.cell?_of_block (w := u) hk]; exact h.c0, by rw [World.cell?_of_block (w := u) hk]; exact h.c1, by rw [World.cell?_of_block (w := u) hk]; exact h.c2, by rw [World.cell?_of_block (w := u) hk]; exact h.c3, by rw [World.cell?_of_block (w := u) hk]; exact h.c4, fun o => by rw [World.frozen?_of_block (w := u) hk]; exact h.f o⟩

/-- What slimPart leaves. -/
def SlimQ (w : World) (x : ExprD) (en : Ending) (w' : World) : Prop := ∃ v', en = .returned v' ∧ EO w' w.heap.size w'.heap.size v' x ∧ Below w.heap.size w w'

/-- slimPart, of what is not deeper than d. -/
def SlimS (d : Nat) : Prop := ∀ (w : World) (lo hi : Nat) (v : Value) (e : ExprD), d ≤ 6 → ER w lo hi v e → hi ≤ w.heap.size → formE d e = true → Calls Tryz.prog 33 #[v] w (SlimQ w (slimD d e))

theorem EO.form5 {w : World} {lo hi : Nat} {v : Value} {e : ExprD} (h : EO w lo hi v e) : ∃ ad cap, v = .agg #[.int .i64 e.k, .int .i64 e.n, .int .i64 e.ak, .int .i64 e.at_, .slice ad e.kids.length cap] := by
  obtain ⟨s, rfl, hk⟩ := h
  obtain ⟨ad, cap, rfl, _, _⟩ := hk.kr.shape
  exact ⟨ad, cap, rfl⟩

set_option maxHeartbeats 16000000 in
theorem slimS_step {d : Nat} (H : SlimS d) : SlimS (d + 1) := by
  intro w lo hi v e hd he hhi hfm
  obtain ⟨s, rfl, hkr⟩ := he
  obtain ⟨qs, hqe, hgr, hqk⟩ := hkr.shells
  obtain ⟨ad0, cap0, rfl, _, _⟩ := hkr.shape
  have hql : qs.length = e.kids.length := by rw [← hqe, List.length_map]
  have hkl := (form_know hfm).1
  have hkb := (kidsOf_bd e.k).2
  have hkf := (form_know hfm).2
  have HQ : Hid (qs.map ShellD.e = e.kids ∧ (∀ q, q ∈ qs → KR w lo hi q.s q.e.kids) ∧ (∀ x, x ∈ e.kids → formE d x = true) ∧ formE (d + 1) e = true ∧ d + 1 ≤ 6) := ⟨hqe, hqk, hkf, hfm, hd⟩
  have HGR : Hid (GR shellE w lo hi (.slice ad0 e.kids.length cap0) qs) := hgr
  have hq2 : qs.length ≤ 2 := by omega
  have HQL : Hid (qs.length = e.kids.length) := hql
  clear hqe hqk hkf hfm hkr hgr hkl hkb hql
  obtain ⟨u0, hu0, G0, F0, Z0, S0⟩ := rule_start w e (.slice ad0 e.kids.length cap0) 42
  have hown := ownExprs_any u0 lo hi _ qs (HGR.out.under G0 hhi) (by omega)
  obtain ⟨c0, c1, c2, c3, c4, _⟩ := id F0
  go_enter Tryz.func33, Tryz.ntmps33
  go_wp2_with fail
  clear hu0 c0 c1 c2 c3 c4
  refine hown.mono ?_
  clear hown
  rintro e1 u1 ⟨v', rfl, hgo, g1⟩
  have S1 := g1.size
  have F1 := F0.under g1 (by omega)
  have Z1 := Z0.under g1 (by omega)
  have G1 := G0.trans (g1.mono (by omega))
  rw [S0] at hgo
  obtain ⟨ad1, cap1, rfl, _, _⟩ := hgo.gr.shape
  have HGO : Hid (GO shellE u1 (w.heap.size + 2) u1.heap.size (.slice ad1 qs.length cap1) qs) := hgo
  clear g1 F0 Z0 G0 hgo
  obtain ⟨c0, c1, c2, c3, c4, cf⟩ := id F1
  have cf4 := cf 4
  obtain ⟨u2, hu2, F2, Z2, G2, K2, S2⟩ : ∃ u2, u1.setCell ⟨w.heap.size, 4, none⟩ (.slice ad1 qs.length cap1) = u2 ∧ Five u2 w.heap.size (.int .i64 e.k) (.int .i64 e.n) (.int .i64 e.ak) (.int .i64 e.at_) (.slice ad1 qs.length cap1) ∧ Five u2 (w.heap.size + 1) (.int .i64 0) (.int .i64 0) (.int .i64 0) (.int .i64 0) (.slice none 0 0) ∧ Below w.heap.size w u2 ∧ SlK (w.heap.size + 2) d (.slice ad1 qs.length cap1) qs 0 u2 ∧ u2.heap.size = u1.heap.size := by
    refine ⟨_, rfl, F1.set4 _, Z1.other _ (by omega), G1.setCell (p := ⟨w.heap.size, 4, none⟩) (Nat.le_refl _) _, ?_, by simp⟩
    have h1 := HGO.out.kept (w' := u1.setCell ⟨w.heap.size, 4, none⟩ (.slice ad1 qs.length cap1)) fun k q1 q2 => Below.heap_setCell _ _ _ _ (by show k ≠ w.heap.size; omega)
    have h2 := SlK.start (d := d) (w := u1.setCell ⟨w.heap.size, 4, none⟩ (.slice ad1 qs.length cap1)) (by rw [World.size_setCell]; exact h1)
    exact h2
  have HS2 : Hid (w.heap.size + 2 ≤ u2.heap.size) := by show _ ≤ _; omega
  have HI : Hid (Five u2 w.heap.size (.int .i64 e.k) (.int .i64 e.n) (.int .i64 e.ak) (.int .i64 e.at_) (.slice ad1 qs.length cap1) ∧ Five u2 (w.heap.size + 1) (.int .i64 0) (.int .i64 0) (.int .i64 0) (.int .i64 0) (.slice none 0 0) ∧ Below w.heap.size w u2 ∧ SlK (w.heap.size + 2) d (.slice ad1 qs.length cap1) qs 0 u2) := ⟨F2, Z2, G2, K2⟩
  have HF2 : Hid (Five u2 w.heap.size (.int .i64 e.k) (.int .i64 e.n) (.int .i64 e.ak) (.int .i64 e.at_) (.slice ad1 qs.length cap1)) := F2
  obtain ⟨d0, d1, d2, d3, d4, _⟩ := id F2
  have hsz2 : w.heap.size + 2 ≤ u2.heap.size := HS2.out
  clear F1 Z1 G1 F2 Z2 G2 K2 S2 HGO cf
  go_wp2_with fail
  try rw [hu2]
  clear hu2 c0 c1 c2 c3 c4 cf4 d0 d1 d2 d3 d4
  go_loopw [17] (fun i wr => ∃ j : Nat, j ≤ qs.length ∧ i = .int .i64 j ∧ w.heap.size + 2 ≤ wr.heap.size ∧ Hid (Five wr w.heap.size (.int .i64 e.k) (.int .i64 e.n) (.int .i64 e.ak) (.int .i64 e.at_) (.slice ad1 qs.length cap1) ∧ Five wr (w.heap.size + 1) (.int .i64 0) (.int .i64 0) (.int .i64 0) (.int .i64 0) (.slice none 0 0) ∧ Below w.heap.size w wr ∧ SlK (w.heap.size + 2) d (.slice ad1 qs.length cap1) qs j wr)) (fun i _ => qs.length - (intOf i).toNat)
  case atStart => exact ⟨0, Nat.zero_le _, rfl, hsz2, HI.out⟩
  case round =>
    clear HI HF2 hsz2 HS2
    obtain ⟨j, hj, rfl, hs, HR⟩ := hrel
    by_cases hlt : j < qs.length
    · obtain ⟨q, hq⟩ : ∃ q, qs[j]? = some q := ⟨qs[j], List.getElem?_eq_getElem hlt⟩
      have hlt' : (j : Int) < (qs.length : Int) := by omega
      rcases HR.out.2.2.2 with ⟨h0, _⟩ | ⟨b, off, cap, ss, l, h, h0, hv, h1, h2, k⟩
      · rw [h0] at hlt; simp at hlt
      simp only [Value.slice.injEq, true_and] at hv
      obtain ⟨rfl, rfl⟩ := hv
      have HK : Hid (SlI (w.heap.size + 2) b off d qs ss l h j wr ∧ qs ≠ [] ∧ qs.length ≤ cap1 ∧ cap1 ≤ maxLen) := ⟨k, h0, h1, h2⟩
      have HQJ : Hid (qs[j]? = some q) := hq
      obtain ⟨c0, c1, c2, c3, c4⟩ := k.todo j q (Nat.le_refl _) hq
      have hbb := k.lt
      have hqm : q ∈ qs := List.mem_of_getElem? hq
      have HQM : Hid (KR w lo hi q.s q.e.kids ∧ formE d q.e = true) := ⟨HQ.out.2.1 q hqm, HQ.out.2.2.1 q.e (by rw [← HQ.out.1]; exact List.mem_map_of_mem hqm)⟩
      rw [show q.s = .slice q.ad q.e.kids.length q.cap from rfl] at c4
      obtain ⟨u3, hu3, B3, V3, S3⟩ : ∃ u3, wr.alloc (.cells #[.int .i64 q.e.k, .int .i64 q.e.n, .int .i64 q.e.ak, .int .i64 q.e.at_, .slice q.ad q.e.kids.length q.cap] 42) = u3 ∧ Below wr.heap.size wr u3 ∧ Five u3 wr.heap.size (.int .i64 q.e.k) (.int .i64 q.e.n) (.int .i64 q.e.ak) (.int .i64 q.e.at_) (.slice q.ad q.e.kids.length q.cap) ∧ u3.heap.size = wr.heap.size + 1 :=
        ⟨_, rfl, (Below.refl _ _).alloc (Nat.le_refl _) _, five_new _ _ _ _ _ _ _, by simp⟩
      have FE := HR.out.1.under B3 (by omega)
      have FZ := HR.out.2.1.under B3 (by omega)
      have GW : Below w.heap.size w u3 := HR.out.2.2.1.trans (B3.mono (by omega))
      have K3 := HK.out.1.grow B3
      have hhl : ∀ i, i < j → h i ≤ wr.heap.size := fun i hi => (HK.out.1.rng i hi).2.2
      have HHL : Hid (∀ i, i < j → h i ≤ wr.heap.size) := hhl
      clear k h0 h1 h2 hq hqm hhl HR B3
      go_wp2_with fail
      try rw [hu3]
      clear hu3 c0 c1 c2 c3 c4
      refine wp_region_last (R := Grow) (Φ := fun i v u => match i with
          | 0 => v = .pointer (some ⟨w.heap.size, 4, none⟩)
          | 1 => v = .slice (some ⟨b, off, none⟩) qs.length cap1
          | 2 => v = .int .i64 j
          | 3 => v = .agg #[.int .i64 q.e.k, .int .i64 q.e.n, .int .i64 q.e.ak, .int .i64 q.e.at_, .slice q.ad q.e.kids.length q.cap]
          | 4 => ∃ lo' hi', u3.heap.size ≤ lo' ∧ lo' ≤ hi' ∧ hi' ≤ u.heap.size ∧ EO u lo' hi' v (slimD d q.e)
          | 5 => v = .pointer (some ⟨b, off + j * 5, none⟩)
          | _ => True)
        (J := fun L a u => True) 6 _ rfl rfl (by kernel_rfl) (by kernel_rfl) (by kernel_rfl) (by kernel_rfl) (Below.refl _ _) grow_trans ?_ trivial ?_ ?_
      · intro i v u u' hr
        match i with
        | 0 | 1 | 2 | 3 | 5 | _ + 6 => exact fun h => h
        | 4 => exact fun ⟨lo', hi', h1, h2, h3, h4⟩ => ⟨lo', hi', h1, h2, Nat.le_trans h3 hr.size, h4.below hr h3⟩
      · intro i o ho hin L ac u hf hR0 hLs hLi hp he hJ K' hK
        have hR : Grow u3 u := (Below.drew (Below.refl _ _)).trans hR0
        have hsz' : ac.tmps.size = 44 := hf.size
        have hus := hR.size
        rcases i with _ | _ | _ | _ | _ | _ | i
        · obtain rfl := Option.some.inj ho
          have q1 : ac.tmps.getD 1 undef = .pointer (some ⟨w.heap.size, 0, none⟩) := hf.at_ 1 (by kernel_rfl)
          clear hp he
          go_simp
          exact hK _ _ (Below.refl _ _) (getD_put_self ac 22 _ (by show _ < ac.tmps.size; omega)) trivial
        · obtain rfl := Option.some.inj ho
          have q22 : ac.tmps.getD 22 undef = .pointer (some ⟨w.heap.size, 4, none⟩) := hp 0 _ rfl (he _ (Array.mem_of_getElem? (i := 0) rfl) (by kernel_rfl))
          clear hp he
          obtain ⟨c0, c1, c2, c3, c4, _⟩ := FE.under hR (by omega)
          go_simp
          exact hK _ _ (Below.refl _ _) (getD_put_self ac 23 _ (by show _ < ac.tmps.size; omega)) trivial
        · obtain rfl := Option.some.inj ho
          have q3 : ac.tmps.getD 3 undef = .int .i64 j := hf.at_ 3 (by kernel_rfl)
          clear hp he
          go_simp
          exact hK _ _ (Below.refl _ _) (getD_put_self ac 24 _ (by show _ < ac.tmps.size; omega)) trivial
        · obtain rfl := Option.some.inj ho
          have q4 : ac.tmps.getD 4 undef = .pointer (some ⟨wr.heap.size, 0, none⟩) := hf.at_ 4 (by kernel_rfl)
          clear hp he
          obtain ⟨c0, c1, c2, c3, c4, _⟩ := V3.under hR (by omega)
          go_simp
          exact hK _ _ (Below.refl _ _) (getD_put_self ac 25 _ (by show _ < ac.tmps.size; omega)) trivial
        · obtain rfl := Option.some.inj ho
          have q25 : ac.tmps.getD 25 undef = .agg #[.int .i64 q.e.k, .int .i64 q.e.n, .int .i64 q.e.ak, .int .i64 q.e.at_, .slice q.ad q.e.kids.length q.cap] := hp 3 _ rfl (he _ (Array.mem_of_getElem? (i := 0) rfl) (by kernel_rfl))
          clear hp he
          go_simp
          refine (H u lo hi _ q.e (by have := HQ.out.2.2.2.2; omega) ⟨_, rfl, HQM.out.1.under (GW.trans (hR.mono (by omega))) hhi⟩ (by omega) HQM.out.2).mono ?_
          rintro e1 u' ⟨m', rfl, HO, hbu⟩
          exact hK _ _ hbu ⟨u.heap.size, u'.heap.size, by omega, hbu.size, Nat.le_refl _, by show EO _ _ _ ((ac.put (some 26) m').tmps.getD 26 undef) _; rw [getD_put_self ac 26 _ (by show _ < ac.tmps.size; omega)]; exact HO⟩ trivial
        · obtain rfl := Option.some.inj ho
          have q23 : ac.tmps.getD 23 undef = .slice (some ⟨b, off, none⟩) qs.length cap1 := hp 1 _ rfl (he _ (Array.mem_of_getElem? (i := 0) rfl) (by kernel_rfl))
          have q24 : ac.tmps.getD 24 undef = .int .i64 j := hp 2 _ rfl (he _ (Array.mem_of_getElem? (i := 1) rfl) (by kernel_rfl))
          clear hp he
          go_simp
          exact hK _ _ (Below.refl _ _) (getD_put_self ac 27 _ (by show _ < ac.tmps.size; omega)) trivial
        · omega
      · intro L ac u hf hR0 hp hJ K' hK
        have hR : Grow u3 u := (Below.drew (Below.refl _ _)).trans hR0
        have hus := hR.size
        obtain ⟨lo1, hi1, k1, k2, k3, HO⟩ : ∃ lo' hi', u3.heap.size ≤ lo' ∧ lo' ≤ hi' ∧ hi' ≤ u.heap.size ∧ EO u lo' hi' (ac.tmps.getD 26 undef) (slimD d q.e) := (hp 4 _ (by omega) rfl).2
        obtain ⟨sx, hsx, HX⟩ := HO
        have m26 := hsx
        have m22 : ac.tmps.getD 22 undef = .pointer (some ⟨w.heap.size, 4, none⟩) := (hp 0 _ (by omega) rfl).2
        have m23 : ac.tmps.getD 23 undef = .slice (some ⟨b, off, none⟩) qs.length cap1 := (hp 1 _ (by omega) rfl).2
        have m24 : ac.tmps.getD 24 undef = .int .i64 j := (hp 2 _ (by omega) rfl).2
        have m25 : ac.tmps.getD 25 undef = .agg #[.int .i64 q.e.k, .int .i64 q.e.n, .int .i64 q.e.ak, .int .i64 q.e.at_, .slice q.ad q.e.kids.length q.cap] := (hp 3 _ (by omega) rfl).2
        have m27 : ac.tmps.getD 27 undef = .pointer (some ⟨b, off + j * 5, none⟩) := (hp 5 _ (by omega) rfl).2
        have KU := K3.grow hR
        have FU := FE.under hR (by omega)
        have ZU := FZ.under hR (by omega)
        have GU := GW.trans (hR.mono (by omega))
        have hc5 := KU.todo j q (Nat.le_refl _) HQJ.out
        have hsm : ∀ x, off + j * 5 ≤ x → x < off + j * 5 + 5 → (u.cell? ⟨b, x, none⟩).isSome = true := fun x h5 h6 => by
          obtain rfl | rfl | rfl | rfl | rfl : x = off + j * 5 ∨ x = off + j * 5 + 1 ∨ x = off + j * 5 + 2 ∨ x = off + j * 5 + 3 ∨ x = off + j * 5 + 4 := by omega
          · rw [hc5.c0]; rfl
          · rw [hc5.c1]; rfl
          · rw [hc5.c2]; rfl
          · rw [hc5.c3]; rfl
          · rw [hc5.c4]; rfl
        obtain ⟨u5, hu5, hcc, hoo, hff, hhh, hzz, hbl⟩ := store5 hsm (.int .i64 (slimD d q.e).k) (.int .i64 (slimD d q.e).n) (.int .i64 (slimD d q.e).ak) (.int .i64 (slimD d q.e).at_) sx
        have HNX := KU.next HQJ.out HX (by omega) k2 k3 (fun i hi => by have := HHL.out i hi; omega) ⟨hcc.1, hcc.2.1, hcc.2.2.1, hcc.2.2.2.1, hcc.2.2.2.2⟩ hoo hff hhh hzz
        have HN : Hid (w.heap.size + 2 ≤ u5.heap.size ∧ Five u5 w.heap.size (.int .i64 e.k) (.int .i64 e.n) (.int .i64 e.ak) (.int .i64 e.at_) (.slice (some ⟨b, off, none⟩) qs.length cap1) ∧ Five u5 (w.heap.size + 1) (.int .i64 0) (.int .i64 0) (.int .i64 0) (.int .i64 0) (.slice none 0 0) ∧ Below w.heap.size w u5 ∧ SlK (w.heap.size + 2) d (.slice (some ⟨b, off, none⟩) qs.length cap1) qs (j + 1) u5) :=
          ⟨by omega, FU.at5 (hhh _ (by omega)), ZU.at5 (hhh _ (by omega)), hbl _ _ (by omega) GU, .inr ⟨b, off, cap1, _, _, _, HK.out.2.1, rfl, HK.out.2.2.1, HK.out.2.2.2, HNX⟩⟩
        have HU5 : Hid (_ = u5) := hu5
        obtain ⟨y0, y1, y2, y3, y4⟩ := id hc5
        have yf0 := KU.frozen (j * 5)
        have yf1 := KU.frozen (j * 5 + 1)
        have yf2 := KU.frozen (j * 5 + 2)
        have yf3 := KU.frozen (j * 5 + 3)
        have yf4 := KU.frozen (j * 5 + 4)
        rw [← Nat.add_assoc] at yf1 yf2 yf3 yf4
        obtain ⟨sa, sc, hsl, _, _⟩ := HX.kr.shape
        subst hsl
        clear hu5 hcc hoo hff hhh hzz hbl HNX KU FU ZU GU hc5 hsm K3 FE FZ GW V3 hp hR0 hJ HX hsx
        obtain ⟨fq, ea, hfv⟩ := act_lit ac 44 hf.size
        have md : ac.defers = [] := hf.defers
        rw [md] at ea
        have m0 := hf.at_ 0 (by kernel_rfl)
        have m1 := hf.at_ 1 (by kernel_rfl)
        have m2 := hf.at_ 2 (by kernel_rfl)
        have m3 := hf.at_ 3 (by kernel_rfl)
        have m4 := hf.at_ 4 (by kernel_rfl)
        have m5 := hf.at_ 5 (by kernel_rfl)
        have m6 := hf.at_ 6 (by kernel_rfl)
        have m7 := hf.at_ 7 (by kernel_rfl)
        have m8 := hf.at_ 8 (by kernel_rfl)
        have m9 := hf.at_ 9 (by kernel_rfl)
        have m10 := hf.at_ 10 (by kernel_rfl)
        have m11 := hf.at_ 11 (by kernel_rfl)
        have m12 := hf.at_ 12 (by kernel_rfl)
        have m13 := hf.at_ 13 (by kernel_rfl)
        have m14 := hf.at_ 14 (by kernel_rfl)
        have m15 := hf.at_ 15 (by kernel_rfl)
        have m16 := hf.at_ 16 (by kernel_rfl)
        have m17 := hf.at_ 17 (by kernel_rfl)
        have m18 := hf.at_ 18 (by kernel_rfl)
        have m19 := hf.at_ 19 (by kernel_rfl)
        have m20 := hf.at_ 20 (by kernel_rfl)
        have m21 := hf.at_ 21 (by kernel_rfl)
        have m28 := hf.at_ 28 (by kernel_rfl)
        have m29 := hf.at_ 29 (by kernel_rfl)
        have m30 := hf.at_ 30 (by kernel_rfl)
        have m31 := hf.at_ 31 (by kernel_rfl)
        have m32 := hf.at_ 32 (by kernel_rfl)
        have m33 := hf.at_ 33 (by kernel_rfl)
        have m34 := hf.at_ 34 (by kernel_rfl)
        have m35 := hf.at_ 35 (by kernel_rfl)
        have m36 := hf.at_ 36 (by kernel_rfl)
        have m37 := hf.at_ 37 (by kernel_rfl)
        have m38 := hf.at_ 38 (by kernel_rfl)
        have m39 := hf.at_ 39 (by kernel_rfl)
        have m40 := hf.at_ 40 (by kernel_rfl)
        have m41 := hf.at_ 41 (by kernel_rfl)
        have m42 := hf.at_ 42 (by kernel_rfl)
        have m43 := hf.at_ 43 (by kernel_rfl)
        rw [← hfv] at m0 m1 m2 m3 m4 m5 m6 m7 m8 m9 m10 m11 m12 m13 m14 m15 m16 m17 m18 m19 m20 m21 m28 m29 m30 m31 m32 m33 m34 m35 m36 m37 m38 m39 m40 m41 m42 m43 m22 m23 m24 m25 m26 m27
        simp only [Array.getD_eq_getD_getElem?, List.getElem?_toArray, List.getElem?_cons_succ, List.getElem?_cons_zero, Option.getD_some] at m0 m1 m2 m3 m4 m5 m6 m7 m8 m9 m10 m11 m12 m13 m14 m15 m16 m17 m18 m19 m20 m21 m28 m29 m30 m31 m32 m33 m34 m35 m36 m37 m38 m39 m40 m41 m42 m43
        simp only [List.range, List.range.loop, List.map_cons, List.map_nil, m0, m1, m2, m3, m4, m5, m6, m7, m8, m9, m10, m11, m12, m13, m14, m15, m16, m17, m18, m19, m20, m21, m28, m29, m30, m31, m32, m33, m34, m35, m36, m37, m38, m39, m40, m41, m42, m43, m22, m23, m24, m25, m26, m27] at ea
        subst ea
        clear m0 m1 m2 m3 m4 m5 m6 m7 m8 m9 m10 m11 m12 m13 m14 m15 m16 m17 m18 m19 m20 m21 m28 m29 m30 m31 m32 m33 m34 m35 m36 m37 m38 m39 m40 m41 m42 m43 m22 m23 m24 m25 m26 m27 hfv md hf
        clear k1 k2 k3
        go_simp
        try rw [HU5.out]
        refine hK _ _ ?_
        clear hK y0 y1 y2 y3 y4 yf0 yf1 yf2 yf3 yf4 HU5
        go_wp2
        go_roundw
        case rel => exact ⟨j + 1, by omega, by go_num, HN.out.1, HN.out.2⟩
        case measure => simp [intOf]; omega
    · obtain rfl : j = qs.length := by omega
      have hko := HR.out.2.2.2.ko
      rw [HQ.out.1] at hko
      have hs2 := hs
      obtain ⟨E, hE⟩ : ∃ E, withK e (e.kids.map (slimD d)) = E := ⟨_, rfl⟩
      have hEk : E.k = e.k ∧ E.n = e.n ∧ E.ak = e.ak ∧ E.at_ = e.at_ ∧ E.kids = e.kids.map (slimD d) := by rw [← hE]; exact ⟨rfl, rfl, rfl, rfl, rfl⟩
      have hEf : formE (d + 1) E = true := by
        rw [← hE]
        refine withK_form HQ.out.2.2.2.1 (by rw [List.length_map]) fun x hx => ?_
        obtain ⟨y, hy, rfl⟩ := List.mem_map.1 hx
        exact slim_form d y (HQ.out.2.2.1 y hy)
      have hEl : qs.length = E.kids.length := by rw [hEk.2.2.2.2, List.length_map]; exact HQL.out
      have HE : Hid (slimD (d + 1) e = shortD E ∧ formE (d + 1) E = true ∧ d ≤ 6) := ⟨by rw [slimD_succ, hE], hEf, by have := HQ.out.2.2.2.2; omega⟩
      have HF : Hid (Five wr w.heap.size (.int .i64 E.k) (.int .i64 E.n) (.int .i64 E.ak) (.int .i64 E.at_) (.slice ad1 E.kids.length cap1)) := by
        show Five wr _ _ _ _ _ _
        rw [hEk.1, hEk.2.1, hEk.2.2.1, hEk.2.2.2.1, ← hEl]
        exact HR.out.1
      have HO : Hid (KO wr (w.heap.size + 2) wr.heap.size (.slice ad1 E.kids.length cap1) E.kids ∧ Five wr (w.heap.size + 1) (.int .i64 0) (.int .i64 0) (.int .i64 0) (.int .i64 0) (.slice none 0 0) ∧ Below w.heap.size w wr) := ⟨by rw [← hEl, hEk.2.2.2.2]; exact hko, HR.out.2.1, HR.out.2.2.1⟩
      clear hko hEk hEf HR hE HQ hEl HGR
      go_wp2_with (refine wpList_allocG (zero_of_info (P := Tryz.prog) zero_rules).1 rfl rfl ?_)
      intro uA gA vA sA
      have hrunA := vA.run 0 6 (show 0 + 6 ≤ 6 by decide)
      go_wp2_with (refine wpList_storeG Tryz.sizeOf80 (vs := rulesV) _ _ rfl rfl rfl rfl rfl rulesV_one hrunA.1 hrunA.2 ?_)
      intro u6 L6
      have V6 := L6.var vA
      have B6 : Below wr.heap.size wr u6 := L6.below _ _ (Nat.le_refl _) gA
      have F6 := HF.out.under B6 (by omega)
      have Z6 := HO.out.2.1.under B6 (by omega)
      have O6 := HO.out.1.under B6 (Nat.le_refl _)
      have G6 : Below w.heap.size w u6 := HO.out.2.2.trans (B6.mono (by omega))
      have s6 := B6.size
      obtain ⟨t0, t1, t2, t3, t4, t5⟩ : u6.cell? ⟨wr.heap.size, 0, none⟩ = _ ∧ u6.cell? ⟨wr.heap.size, 1, none⟩ = _ ∧ u6.cell? ⟨wr.heap.size, 2, none⟩ = _ ∧ u6.cell? ⟨wr.heap.size, 3, none⟩ = _ ∧ u6.cell? ⟨wr.heap.size, 4, none⟩ = _ ∧ u6.cell? ⟨wr.heap.size, 5, none⟩ = _ := ⟨V6.c 0 _ rfl, V6.c 1 _ rfl, V6.c 2 _ rfl, V6.c 3 _ rfl, V6.c 4 _ rfl, V6.c 5 _ rfl⟩
      have HI6 : Hid (Five u6 w.heap.size (.int .i64 E.k) (.int .i64 E.n) (.int .i64 E.ak) (.int .i64 E.at_) (.slice ad1 E.kids.length cap1) ∧ Five u6 (w.heap.size + 1) (.int .i64 0) (.int .i64 0) (.int .i64 0) (.int .i64 0) (.slice none 0 0) ∧ KO u6 (w.heap.size + 2) wr.heap.size (.slice ad1 E.kids.length cap1) E.kids ∧ Below w.heap.size w u6) := ⟨F6, Z6, O6, G6⟩
      have HS6 : Hid (w.heap.size + 2 ≤ wr.heap.size ∧ wr.heap.size ≤ u6.heap.size) := ⟨hs, s6⟩
      clear L6 hrunA vA gA sA V6 B6 F6 Z6 O6 G6 HF HO
      go_wp2_with fail
      clear t0 t1 t2 t3 t4 t5
      obtain ⟨TOP, hTOP⟩ : ∃ T, wr.heap.size = T := ⟨_, rfl⟩
      rw [hTOP] at HI6 HS6
      try rw [hTOP]
      have hs6 := HS6.out
      clear hTOP s6 hs hs2
      go_loopw [31] (fun i wr => ∃ j : Nat, j ≤ 6 ∧ i = .int .i64 j ∧ TOP ≤ wr.heap.size ∧ Hid (Five wr w.heap.size (.int .i64 E.k) (.int .i64 E.n) (.int .i64 E.ak) (.int .i64 E.at_) (.slice ad1 E.kids.length cap1) ∧ Five wr (w.heap.size + 1) (.int .i64 0) (.int .i64 0) (.int .i64 0) (.int .i64 0) (.slice none 0 0) ∧ KO wr (w.heap.size + 2) TOP (.slice ad1 E.kids.length cap1) E.kids ∧ Below w.heap.size w wr ∧ ∀ i, i < j → ruleD i E = none)) (fun i _ => 6 - (intOf i).toNat)
      case atStart => exact ⟨0, by omega, rfl, hs6.2, HI6.out.1, HI6.out.2.1, HI6.out.2.2.1, HI6.out.2.2.2, fun i hi => by omega⟩
      case round =>
        clear HI6 hs6
        obtain ⟨j, hj, rfl, hs, HR⟩ := hrel
        have hs6 := HS6.out.1
        obtain ⟨e0, e1, e2, e3, e4, _⟩ := id HR.out.1
        by_cases hlt : j < 6
        · have hrule : ∀ f, RuleC f j → Calls Tryz.prog f #[.agg #[.int .i64 E.k, .int .i64 E.n, .int .i64 E.ak, .int .i64 E.at_, .slice ad1 E.kids.length cap1]] wr (RuleP wr (w.heap.size + 2) TOP j E) := fun f hf => hf d wr _ _ _ E HE.out.2.2 ⟨_, rfl, HR.out.2.2.1⟩ hs HE.out.2.1
          obtain rfl | rfl | rfl | rfl | rfl | rfl : j = 0 ∨ j = 1 ∨ j = 2 ∨ j = 3 ∨ j = 4 ∨ j = 5 := by omega
          · have hc := hrule _ notOfNumber_rule
            have hix := rules_index0 wr
            clear hrule
            go_wp2_with fail
            clear hix
            clear e0 e1 e2 e3 e4
            refine hc.mono ?_
            clear hc
            rintro e1 u1 ⟨v', x, bb, rfl, HO1, g1, hrl⟩
            have HO : Hid (EO u1 (w.heap.size + 2) TOP v' x) := HO1
            obtain ⟨ax, cx, rfl⟩ := HO1.form5
            have S1 := g1.size
            have G1 : Below w.heap.size w u1 := HR.out.2.2.2.1.trans (g1.mono (by omega))
            have E1 := HR.out.1.under g1 (by omega)
            have Z1 := HR.out.2.1.under g1 (by omega)
            have K1 := HR.out.2.2.1.under g1 hs
            clear HO1 g1
            obtain ⟨u2, hu2, B2, V2, S2⟩ : ∃ u2, u1.alloc (.cells #[.int .i64 x.k, .int .i64 x.n, .int .i64 x.ak, .int .i64 x.at_, .slice ax x.kids.length cx] 42) = u2 ∧ Below u1.heap.size u1 u2 ∧ Five u2 u1.heap.size (.int .i64 x.k) (.int .i64 x.n) (.int .i64 x.ak) (.int .i64 x.at_) (.slice ax x.kids.length cx) ∧ u2.heap.size = u1.heap.size + 1 :=
              ⟨_, rfl, (Below.refl _ _).alloc (Nat.le_refl _) _, five_new _ _ _ _ _ _ _, by simp⟩
            have G2 : Below w.heap.size w u2 := G1.trans (B2.mono (by omega))
            have E2 := E1.under B2 (by omega)
            have Z2 := Z1.under B2 (by omega)
            have K2 := K1.under B2 (by omega)
            have HO2 : Hid (EO u2 (w.heap.size + 2) TOP (.agg #[.int .i64 x.k, .int .i64 x.n, .int .i64 x.ak, .int .i64 x.at_, .slice ax x.kids.length cx]) x) := HO.out.below B2 (by omega)
            clear HO G1 E1 Z1 K1 B2
            cases bb with
            | true =>
              have HX : Hid (slimD (d + 1) e = x) := by show slimD (d + 1) e = x; rw [HE.out.1]; exact shortD_at HR.out.2.2.2.2 (by rw [hrl]; rfl)
              obtain ⟨u5, hu5, F5, N5, S5, B5⟩ := fiveStore Z2 (.int .i64 x.k) (.int .i64 x.n) (.int .i64 x.ak) (.int .i64 x.at_) (.slice ax x.kids.length cx)
              have HU5 : Hid (_ = u5) := hu5
              have HB : Hid (Below w.heap.size w u5 ∧ Five u5 (w.heap.size + 1) (.int .i64 x.k) (.int .i64 x.n) (.int .i64 x.ak) (.int .i64 x.at_) (.slice ax x.kids.length cx) ∧ EO u5 w.heap.size u5.heap.size (.agg #[.int .i64 x.k, .int .i64 x.n, .int .i64 x.ak, .int .i64 x.at_, .slice ax x.kids.length cx]) x) :=
                ⟨G2.trans (B5.mono (by omega)), F5, (HO2.out.kept fun k q1 q2 => N5 k (by omega)).wide (by omega) (by omega)⟩
              obtain ⟨z0, z1, z2, z3, z4, zf⟩ := id Z2
              have zf0 := zf 0
              have zf1 := zf 1
              have zf2 := zf 2
              have zf3 := zf 3
              have zf4 := zf 4
              obtain ⟨y0, y1, y2, y3, y4, _⟩ := id V2
              have hne : w.heap.size + 1 < u1.heap.size := by omega
              clear hu5 F5 N5 B5 zf Z2 V2 E2 K2 G2 HO2
              go_wp2
              try rw [hu2]
              rw [HU5.out]
              obtain ⟨r0, r1, r2, r3, r4, _⟩ := HB.out.2.1
              exact bodyPost_ret (v := .agg #[.int .i64 x.k, .int .i64 x.n, .int .i64 x.ak, .int .i64 x.at_, .slice ax x.kids.length cx]) (by simp [results, Tryz.results33, go_sem, r0, r1, r2, r3, r4]) rfl ⟨_, rfl, by rw [HX.out]; exact HB.out.2.2, HB.out.1⟩
            | false =>
              have HN : Hid (TOP ≤ u2.heap.size ∧ Five u2 w.heap.size (.int .i64 E.k) (.int .i64 E.n) (.int .i64 E.ak) (.int .i64 E.at_) (.slice ad1 E.kids.length cap1) ∧ Five u2 (w.heap.size + 1) (.int .i64 0) (.int .i64 0) (.int .i64 0) (.int .i64 0) (.slice none 0 0) ∧ KO u2 (w.heap.size + 2) TOP (.slice ad1 E.kids.length cap1) E.kids ∧ Below w.heap.size w u2 ∧ ∀ i, i < 0 + 1 → ruleD i E = none) := ⟨by omega, E2, Z2, K2, G2, fun i hi => by
                rcases Nat.lt_or_ge i 0 with h | h
                · exact HR.out.2.2.2.2 i h
                · obtain rfl : i = 0 := by omega
                  rw [hrl]; rfl⟩
              clear Z2 V2 E2 K2 G2 HO2
              go_wp2
              try rw [hu2]
              go_roundw
              case rel => exact ⟨0 + 1, by omega, by go_num, HN.out.1, HN.out.2⟩
              case measure => simp [intOf]
          · have hc := hrule _ twoNumbers_rule
            have hix := rules_index1 wr
            clear hrule
            go_wp2_with fail
            clear hix
            clear e0 e1 e2 e3 e4
            refine hc.mono ?_
            clear hc
            rintro e1 u1 ⟨v', x, bb, rfl, HO1, g1, hrl⟩
            have HO : Hid (EO u1 (w.heap.size + 2) TOP v' x) := HO1
            obtain ⟨ax, cx, rfl⟩ := HO1.form5
            have S1 := g1.size
            have G1 : Below w.heap.size w u1 := HR.out.2.2.2.1.trans (g1.mono (by omega))
            have E1 := HR.out.1.under g1 (by omega)
            have Z1 := HR.out.2.1.under g1 (by omega)
            have K1 := HR.out.2.2.1.under g1 hs
            clear HO1 g1
            obtain ⟨u2, hu2, B2, V2, S2⟩ : ∃ u2, u1.alloc (.cells #[.int .i64 x.k, .int .i64 x.n, .int .i64 x.ak, .int .i64 x.at_, .slice ax x.kids.length cx] 42) = u2 ∧ Below u1.heap.size u1 u2 ∧ Five u2 u1.heap.size (.int .i64 x.k) (.int .i64 x.n) (.int .i64 x.ak) (.int .i64 x.at_) (.slice ax x.kids.length cx) ∧ u2.heap.size = u1.heap.size + 1 :=
              ⟨_, rfl, (Below.refl _ _).alloc (Nat.le_refl _) _, five_new _ _ _ _ _ _ _, by simp⟩
            have G2 : Below w.heap.size w u2 := G1.trans (B2.mono (by omega))
            have E2 := E1.under B2 (by omega)
            have Z2 := Z1.under B2 (by omega)
            have K2 := K1.under B2 (by omega)
            have HO2 : Hid (EO u2 (w.heap.size + 2) TOP (.agg #[.int .i64 x.k, .int .i64 x.n, .int .i64 x.ak, .int .i64 x.at_, .slice ax x.kids.length cx]) x) := HO.out.below B2 (by omega)
            clear HO G1 E1 Z1 K1 B2
            cases bb with
            | true =>
              have HX : Hid (slimD (d + 1) e = x) := by show slimD (d + 1) e = x; rw [HE.out.1]; exact shortD_at HR.out.2.2.2.2 (by rw [hrl]; rfl)
              obtain ⟨u5, hu5, F5, N5, S5, B5⟩ := fiveStore Z2 (.int .i64 x.k) (.int .i64 x.n) (.int .i64 x.ak) (.int .i64 x.at_) (.slice ax x.kids.length cx)
              have HU5 : Hid (_ = u5) := hu5
              have HB : Hid (Below w.heap.size w u5 ∧ Five u5 (w.heap.size + 1) (.int .i64 x.k) (.int .i64 x.n) (.int .i64 x.ak) (.int .i64 x.at_) (.slice ax x.kids.length cx) ∧ EO u5 w.heap.size u5.heap.size (.agg #[.int .i64 x.k, .int .i64 x.n, .int .i64 x.ak, .int .i64 x.at_, .slice ax x.kids.length cx]) x) :=
                ⟨G2.trans (B5.mono (by omega)), F5, (HO2.out.kept fun k q1 q2 => N5 k (by omega)).wide (by omega) (by omega)⟩
              obtain ⟨z0, z1, z2, z3, z4, zf⟩ := id Z2
              have zf0 := zf 0
              have zf1 := zf 1
              have zf2 := zf 2
              have zf3 := zf 3
              have zf4 := zf 4
              obtain ⟨y0, y1, y2, y3, y4, _⟩ := id V2
              have hne : w.heap.size + 1 < u1.heap.size := by omega
              clear hu5 F5 N5 B5 zf Z2 V2 E2 K2 G2 HO2
              go_wp2
              try rw [hu2]
              rw [HU5.out]
              obtain ⟨r0, r1, r2, r3, r4, _⟩ := HB.out.2.1
              exact bodyPost_ret (v := .agg #[.int .i64 x.k, .int .i64 x.n, .int .i64 x.ak, .int .i64 x.at_, .slice ax x.kids.length cx]) (by simp [results, Tryz.results33, go_sem, r0, r1, r2, r3, r4]) rfl ⟨_, rfl, by rw [HX.out]; exact HB.out.2.2, HB.out.1⟩
            | false =>
              have HN : Hid (TOP ≤ u2.heap.size ∧ Five u2 w.heap.size (.int .i64 E.k) (.int .i64 E.n) (.int .i64 E.ak) (.int .i64 E.at_) (.slice ad1 E.kids.length cap1) ∧ Five u2 (w.heap.size + 1) (.int .i64 0) (.int .i64 0) (.int .i64 0) (.int .i64 0) (.slice none 0 0) ∧ KO u2 (w.heap.size + 2) TOP (.slice ad1 E.kids.length cap1) E.kids ∧ Below w.heap.size w u2 ∧ ∀ i, i < 1 + 1 → ruleD i E = none) := ⟨by omega, E2, Z2, K2, G2, fun i hi => by
                rcases Nat.lt_or_ge i 1 with h | h
                · exact HR.out.2.2.2.2 i h
                · obtain rfl : i = 1 := by omega
                  rw [hrl]; rfl⟩
              clear Z2 V2 E2 K2 G2 HO2
              go_wp2
              try rw [hu2]
              go_roundw
              case rel => exact ⟨1 + 1, by omega, by go_num, HN.out.1, HN.out.2⟩
              case measure => simp [intOf]
          · have hc := hrule _ secondGoes_rule
            have hix := rules_index2 wr
            clear hrule
            go_wp2_with fail
            clear hix
            clear e0 e1 e2 e3 e4
            refine hc.mono ?_
            clear hc
            rintro e1 u1 ⟨v', x, bb, rfl, HO1, g1, hrl⟩
            have HO : Hid (EO u1 (w.heap.size + 2) TOP v' x) := HO1
            obtain ⟨ax, cx, rfl⟩ := HO1.form5
            have S1 := g1.size
            have G1 : Below w.heap.size w u1 := HR.out.2.2.2.1.trans (g1.mono (by omega))
            have E1 := HR.out.1.under g1 (by omega)
            have Z1 := HR.out.2.1.under g1 (by omega)
            have K1 := HR.out.2.2.1.under g1 hs
            clear HO1 g1
            obtain ⟨u2, hu2, B2, V2, S2⟩ : ∃ u2, u1.alloc (.cells #[.int .i64 x.k, .int .i64 x.n, .int .i64 x.ak, .int .i64 x.at_, .slice ax x.kids.length cx] 42) = u2 ∧ Below u1.heap.size u1 u2 ∧ Five u2 u1.heap.size (.int .i64 x.k) (.int .i64 x.n) (.int .i64 x.ak) (.int .i64 x.at_) (.slice ax x.kids.length cx) ∧ u2.heap.size = u1.heap.size + 1 :=
              ⟨_, rfl, (Below.refl _ _).alloc (Nat.le_refl _) _, five_new _ _ _ _ _ _ _, by simp⟩
            have G2 : Below w.heap.size w u2 := G1.trans (B2.mono (by omega))
            have E2 := E1.under B2 (by omega)
            have Z2 := Z1.under B2 (by omega)
            have K2 := K1.under B2 (by omega)
            have HO2 : Hid (EO u2 (w.heap.size + 2) TOP (.agg #[.int .i64 x.k, .int .i64 x.n, .int .i64 x.ak, .int .i64 x.at_, .slice ax x.kids.length cx]) x) := HO.out.below B2 (by omega)
            clear HO G1 E1 Z1 K1 B2
            cases bb with
            | true =>
              have HX : Hid (slimD (d + 1) e = x) := by show slimD (d + 1) e = x; rw [HE.out.1]; exact shortD_at HR.out.2.2.2.2 (by rw [hrl]; rfl)
              obtain ⟨u5, hu5, F5, N5, S5, B5⟩ := fiveStore Z2 (.int .i64 x.k) (.int .i64 x.n) (.int .i64 x.ak) (.int .i64 x.at_) (.slice ax x.kids.length cx)
              have HU5 : Hid (_ = u5) := hu5
              have HB : Hid (Below w.heap.size w u5 ∧ Five u5 (w.heap.size + 1) (.int .i64 x.k) (.int .i64 x.n) (.int .i64 x.ak) (.int .i64 x.at_) (.slice ax x.kids.length cx) ∧ EO u5 w.heap.size u5.heap.size (.agg #[.int .i64 x.k, .int .i64 x.n, .int .i64 x.ak, .int .i64 x.at_, .slice ax x.kids.length cx]) x) :=
                ⟨G2.trans (B5.mono (by omega)), F5, (HO2.out.kept fun k q1 q2 => N5 k (by omega)).wide (by omega) (by omega)⟩
              obtain ⟨z0, z1, z2, z3, z4, zf⟩ := id Z2
              have zf0 := zf 0
              have zf1 := zf 1
              have zf2 := zf 2
              have zf3 := zf 3
              have zf4 := zf 4
              obtain ⟨y0, y1, y2, y3, y4, _⟩ := id V2
              have hne : w.heap.size + 1 < u1.heap.size := by omega
              clear hu5 F5 N5 B5 zf Z2 V2 E2 K2 G2 HO2
              go_wp2
              try rw [hu2]
              rw [HU5.out]
              obtain ⟨r0, r1, r2, r3, r4, _⟩ := HB.out.2.1
              exact bodyPost_ret (v := .agg #[.int .i64 x.k, .int .i64 x.n, .int .i64 x.ak, .int .i64 x.at_, .slice ax x.kids.length cx]) (by simp [results, Tryz.results33, go_sem, r0, r1, r2, r3, r4]) rfl ⟨_, rfl, by rw [HX.out]; exact HB.out.2.2, HB.out.1⟩
            | false =>
              have HN : Hid (TOP ≤ u2.heap.size ∧ Five u2 w.heap.size (.int .i64 E.k) (.int .i64 E.n) (.int .i64 E.ak) (.int .i64 E.at_) (.slice ad1 E.kids.length cap1) ∧ Five u2 (w.heap.size + 1) (.int .i64 0) (.int .i64 0) (.int .i64 0) (.int .i64 0) (.slice none 0 0) ∧ KO u2 (w.heap.size + 2) TOP (.slice ad1 E.kids.length cap1) E.kids ∧ Below w.heap.size w u2 ∧ ∀ i, i < 2 + 1 → ruleD i E = none) := ⟨by omega, E2, Z2, K2, G2, fun i hi => by
                rcases Nat.lt_or_ge i 2 with h | h
                · exact HR.out.2.2.2.2 i h
                · obtain rfl : i = 2 := by omega
                  rw [hrl]; rfl⟩
              clear Z2 V2 E2 K2 G2 HO2
              go_wp2
              try rw [hu2]
              go_roundw
              case rel => exact ⟨2 + 1, by omega, by go_num, HN.out.1, HN.out.2⟩
              case measure => simp [intOf]
          · have hc := hrule _ firstGoes_rule
            have hix := rules_index3 wr
            clear hrule
            go_wp2_with fail
            clear hix
            clear e0 e1 e2 e3 e4
            refine hc.mono ?_
            clear hc
            rintro e1 u1 ⟨v', x, bb, rfl, HO1, g1, hrl⟩
            have HO : Hid (EO u1 (w.heap.size + 2) TOP v' x) := HO1
            obtain ⟨ax, cx, rfl⟩ := HO1.form5
            have S1 := g1.size
            have G1 : Below w.heap.size w u1 := HR.out.2.2.2.1.trans (g1.mono (by omega))
            have E1 := HR.out.1.under g1 (by omega)
            have Z1 := HR.out.2.1.under g1 (by omega)
            have K1 := HR.out.2.2.1.under g1 hs
            clear HO1 g1
            obtain ⟨u2, hu2, B2, V2, S2⟩ : ∃ u2, u1.alloc (.cells #[.int .i64 x.k, .int .i64 x.n, .int .i64 x.ak, .int .i64 x.at_, .slice ax x.kids.length cx] 42) = u2 ∧ Below u1.heap.size u1 u2 ∧ Five u2 u1.heap.size (.int .i64 x.k) (.int .i64 x.n) (.int .i64 x.ak) (.int .i64 x.at_) (.slice ax x.kids.length cx) ∧ u2.heap.size = u1.heap.size + 1 :=
              ⟨_, rfl, (Below.refl _ _).alloc (Nat.le_refl _) _, five_new _ _ _ _ _ _ _, by simp⟩
            have G2 : Below w.heap.size w u2 := G1.trans (B2.mono (by omega))
            have E2 := E1.under B2 (by omega)
            have Z2 := Z1.under B2 (by omega)
            have K2 := K1.under B2 (by omega)
            have HO2 : Hid (EO u2 (w.heap.size + 2) TOP (.agg #[.int .i64 x.k, .int .i64 x.n, .int .i64 x.ak, .int .i64 x.at_, .slice ax x.kids.length cx]) x) := HO.out.below B2 (by omega)
            clear HO G1 E1 Z1 K1 B2
            cases bb with
            | true =>
              have HX : Hid (slimD (d + 1) e = x) := by show slimD (d + 1) e = x; rw [HE.out.1]; exact shortD_at HR.out.2.2.2.2 (by rw [hrl]; rfl)
              obtain ⟨u5, hu5, F5, N5, S5, B5⟩ := fiveStore Z2 (.int .i64 x.k) (.int .i64 x.n) (.int .i64 x.ak) (.int .i64 x.at_) (.slice ax x.kids.length cx)
              have HU5 : Hid (_ = u5) := hu5
              have HB : Hid (Below w.heap.size w u5 ∧ Five u5 (w.heap.size + 1) (.int .i64 x.k) (.int .i64 x.n) (.int .i64 x.ak) (.int .i64 x.at_) (.slice ax x.kids.length cx) ∧ EO u5 w.heap.size u5.heap.size (.agg #[.int .i64 x.k, .int .i64 x.n, .int .i64 x.ak, .int .i64 x.at_, .slice ax x.kids.length cx]) x) :=
                ⟨G2.trans (B5.mono (by omega)), F5, (HO2.out.kept fun k q1 q2 => N5 k (by omega)).wide (by omega) (by omega)⟩
              obtain ⟨z0, z1, z2, z3, z4, zf⟩ := id Z2
              have zf0 := zf 0
              have zf1 := zf 1
              have zf2 := zf 2
              have zf3 := zf 3
              have zf4 := zf 4
              obtain ⟨y0, y1, y2, y3, y4, _⟩ := id V2
              have hne : w.heap.size + 1 < u1.heap.size := by omega
              clear hu5 F5 N5 B5 zf Z2 V2 E2 K2 G2 HO2
              go_wp2
              try rw [hu2]
              rw [HU5.out]
              obtain ⟨r0, r1, r2, r3, r4, _⟩ := HB.out.2.1
              exact bodyPost_ret (v := .agg #[.int .i64 x.k, .int .i64 x.n, .int .i64 x.ak, .int .i64 x.at_, .slice ax x.kids.length cx]) (by simp [results, Tryz.results33, go_sem, r0, r1, r2, r3, r4]) rfl ⟨_, rfl, by rw [HX.out]; exact HB.out.2.2, HB.out.1⟩
            | false =>
              have HN : Hid (TOP ≤ u2.heap.size ∧ Five u2 w.heap.size (.int .i64 E.k) (.int .i64 E.n) (.int .i64 E.ak) (.int .i64 E.at_) (.slice ad1 E.kids.length cap1) ∧ Five u2 (w.heap.size + 1) (.int .i64 0) (.int .i64 0) (.int .i64 0) (.int .i64 0) (.slice none 0 0) ∧ KO u2 (w.heap.size + 2) TOP (.slice ad1 E.kids.length cap1) E.kids ∧ Below w.heap.size w u2 ∧ ∀ i, i < 3 + 1 → ruleD i E = none) := ⟨by omega, E2, Z2, K2, G2, fun i hi => by
                rcases Nat.lt_or_ge i 3 with h | h
                · exact HR.out.2.2.2.2 i h
                · obtain rfl : i = 3 := by omega
                  rw [hrl]; rfl⟩
              clear Z2 V2 E2 K2 G2 HO2
              go_wp2
              try rw [hu2]
              go_roundw
              case rel => exact ⟨3 + 1, by omega, by go_num, HN.out.1, HN.out.2⟩
              case measure => simp [intOf]
          · have hc := hrule _ oneIsZero_rule
            have hix := rules_index4 wr
            clear hrule
            go_wp2_with fail
            clear hix
            clear e0 e1 e2 e3 e4
            refine hc.mono ?_
            clear hc
            rintro e1 u1 ⟨v', x, bb, rfl, HO1, g1, hrl⟩
            have HO : Hid (EO u1 (w.heap.size + 2) TOP v' x) := HO1
            obtain ⟨ax, cx, rfl⟩ := HO1.form5
            have S1 := g1.size
            have G1 : Below w.heap.size w u1 := HR.out.2.2.2.1.trans (g1.mono (by omega))
            have E1 := HR.out.1.under g1 (by omega)
            have Z1 := HR.out.2.1.under g1 (by omega)
            have K1 := HR.out.2.2.1.under g1 hs
            clear HO1 g1
            obtain ⟨u2, hu2, B2, V2, S2⟩ : ∃ u2, u1.alloc (.cells #[.int .i64 x.k, .int .i64 x.n, .int .i64 x.ak, .int .i64 x.at_, .slice ax x.kids.length cx] 42) = u2 ∧ Below u1.heap.size u1 u2 ∧ Five u2 u1.heap.size (.int .i64 x.k) (.int .i64 x.n) (.int .i64 x.ak) (.int .i64 x.at_) (.slice ax x.kids.length cx) ∧ u2.heap.size = u1.heap.size + 1 :=
              ⟨_, rfl, (Below.refl _ _).alloc (Nat.le_refl _) _, five_new _ _ _ _ _ _ _, by simp⟩
            have G2 : Below w.heap.size w u2 := G1.trans (B2.mono (by omega))
            have E2 := E1.under B2 (by omega)
            have Z2 := Z1.under B2 (by omega)
            have K2 := K1.under B2 (by omega)
            have HO2 : Hid (EO u2 (w.heap.size + 2) TOP (.agg #[.int .i64 x.k, .int .i64 x.n, .int .i64 x.ak, .int .i64 x.at_, .slice ax x.kids.length cx]) x) := HO.out.below B2 (by omega)
            clear HO G1 E1 Z1 K1 B2
            cases bb with
            | true =>
              have HX : Hid (slimD (d + 1) e = x) := by show slimD (d + 1) e = x; rw [HE.out.1]; exact shortD_at HR.out.2.2.2.2 (by rw [hrl]; rfl)
              obtain ⟨u5, hu5, F5, N5, S5, B5⟩ := fiveStore Z2 (.int .i64 x.k) (.int .i64 x.n) (.int .i64 x.ak) (.int .i64 x.at_) (.slice ax x.kids.length cx)
              have HU5 : Hid (_ = u5) := hu5
              have HB : Hid (Below w.heap.size w u5 ∧ Five u5 (w.heap.size + 1) (.int .i64 x.k) (.int .i64 x.n) (.int .i64 x.ak) (.int .i64 x.at_) (.slice ax x.kids.length cx) ∧ EO u5 w.heap.size u5.heap.size (.agg #[.int .i64 x.k, .int .i64 x.n, .int .i64 x.ak, .int .i64 x.at_, .slice ax x.kids.length cx]) x) :=
                ⟨G2.trans (B5.mono (by omega)), F5, (HO2.out.kept fun k q1 q2 => N5 k (by omega)).wide (by omega) (by omega)⟩
              obtain ⟨z0, z1, z2, z3, z4, zf⟩ := id Z2
              have zf0 := zf 0
              have zf1 := zf 1
              have zf2 := zf 2
              have zf3 := zf 3
              have zf4 := zf 4
              obtain ⟨y0, y1, y2, y3, y4, _⟩ := id V2
              have hne : w.heap.size + 1 < u1.heap.size := by omega
              clear hu5 F5 N5 B5 zf Z2 V2 E2 K2 G2 HO2
              go_wp2
              try rw [hu2]
              rw [HU5.out]
              obtain ⟨r0, r1, r2, r3, r4, _⟩ := HB.out.2.1
              exact bodyPost_ret (v := .agg #[.int .i64 x.k, .int .i64 x.n, .int .i64 x.ak, .int .i64 x.at_, .slice ax x.kids.length cx]) (by simp [results, Tryz.results33, go_sem, r0, r1, r2, r3, r4]) rfl ⟨_, rfl, by rw [HX.out]; exact HB.out.2.2, HB.out.1⟩
            | false =>
              have HN : Hid (TOP ≤ u2.heap.size ∧ Five u2 w.heap.size (.int .i64 E.k) (.int .i64 E.n) (.int .i64 E.ak) (.int .i64 E.at_) (.slice ad1 E.kids.length cap1) ∧ Five u2 (w.heap.size + 1) (.int .i64 0) (.int .i64 0) (.int .i64 0) (.int .i64 0) (.slice none 0 0) ∧ KO u2 (w.heap.size + 2) TOP (.slice ad1 E.kids.length cap1) E.kids ∧ Below w.heap.size w u2 ∧ ∀ i, i < 4 + 1 → ruleD i E = none) := ⟨by omega, E2, Z2, K2, G2, fun i hi => by
                rcases Nat.lt_or_ge i 4 with h | h
                · exact HR.out.2.2.2.2 i h
                · obtain rfl : i = 4 := by omega
                  rw [hrl]; rfl⟩
              clear Z2 V2 E2 K2 G2 HO2
              go_wp2
              try rw [hu2]
              go_roundw
              case rel => exact ⟨4 + 1, by omega, by go_num, HN.out.1, HN.out.2⟩
              case measure => simp [intOf]
          · have hc := hrule _ twoAlike_rule
            have hix := rules_index5 wr
            clear hrule
            go_wp2_with fail
            clear hix
            clear e0 e1 e2 e3 e4
            refine hc.mono ?_
            clear hc
            rintro e1 u1 ⟨v', x, bb, rfl, HO1, g1, hrl⟩
            have HO : Hid (EO u1 (w.heap.size + 2) TOP v' x) := HO1
            obtain ⟨ax, cx, rfl⟩ := HO1.form5
            have S1 := g1.size
            have G1 : Below w.heap.size w u1 := HR.out.2.2.2.1.trans (g1.mono (by omega))
            have E1 := HR.out.1.under g1 (by omega)
            have Z1 := HR.out.2.1.under g1 (by omega)
            have K1 := HR.out.2.2.1.under g1 hs
            clear HO1 g1
            obtain ⟨u2, hu2, B2, V2, S2⟩ : ∃ u2, u1.alloc (.cells #[.int .i64 x.k, .int .i64 x.n, .int .i64 x.ak, .int .i64 x.at_, .slice ax x.kids.length cx] 42) = u2 ∧ Below u1.heap.size u1 u2 ∧ Five u2 u1.heap.size (.int .i64 x.k) (.int .i64 x.n) (.int .i64 x.ak) (.int .i64 x.at_) (.slice ax x.kids.length cx) ∧ u2.heap.size = u1.heap.size + 1 :=
              ⟨_, rfl, (Below.refl _ _).alloc (Nat.le_refl _) _, five_new _ _ _ _ _ _ _, by simp⟩
            have G2 : Below w.heap.size w u2 := G1.trans (B2.mono (by omega))
            have E2 := E1.under B2 (by omega)
            have Z2 := Z1.under B2 (by omega)
            have K2 := K1.under B2 (by omega)
            have HO2 : Hid (EO u2 (w.heap.size + 2) TOP (.agg #[.int .i64 x.k, .int .i64 x.n, .int .i64 x.ak, .int .i64 x.at_, .slice ax x.kids.length cx]) x) := HO.out.below B2 (by omega)
            clear HO G1 E1 Z1 K1 B2
            cases bb with
            | true =>
              have HX : Hid (slimD (d + 1) e = x) := by show slimD (d + 1) e = x; rw [HE.out.1]; exact shortD_at HR.out.2.2.2.2 (by rw [hrl]; rfl)
              obtain ⟨u5, hu5, F5, N5, S5, B5⟩ := fiveStore Z2 (.int .i64 x.k) (.int .i64 x.n) (.int .i64 x.ak) (.int .i64 x.at_) (.slice ax x.kids.length cx)
              have HU5 : Hid (_ = u5) := hu5
              have HB : Hid (Below w.heap.size w u5 ∧ Five u5 (w.heap.size + 1) (.int .i64 x.k) (.int .i64 x.n) (.int .i64 x.ak) (.int .i64 x.at_) (.slice ax x.kids.length cx) ∧ EO u5 w.heap.size u5.heap.size (.agg #[.int .i64 x.k, .int .i64 x.n, .int .i64 x.ak, .int .i64 x.at_, .slice ax x.kids.length cx]) x) :=
                ⟨G2.trans (B5.mono (by omega)), F5, (HO2.out.kept fun k q1 q2 => N5 k (by omega)).wide (by omega) (by omega)⟩
              obtain ⟨z0, z1, z2, z3, z4, zf⟩ := id Z2
              have zf0 := zf 0
              have zf1 := zf 1
              have zf2 := zf 2
              have zf3 := zf 3
              have zf4 := zf 4
              obtain ⟨y0, y1, y2, y3, y4, _⟩ := id V2
              have hne : w.heap.size + 1 < u1.heap.size := by omega
              clear hu5 F5 N5 B5 zf Z2 V2 E2 K2 G2 HO2
              go_wp2
              try rw [hu2]
              rw [HU5.out]
              obtain ⟨r0, r1, r2, r3, r4, _⟩ := HB.out.2.1
              exact bodyPost_ret (v := .agg #[.int .i64 x.k, .int .i64 x.n, .int .i64 x.ak, .int .i64 x.at_, .slice ax x.kids.length cx]) (by simp [results, Tryz.results33, go_sem, r0, r1, r2, r3, r4]) rfl ⟨_, rfl, by rw [HX.out]; exact HB.out.2.2, HB.out.1⟩
            | false =>
              have HN : Hid (TOP ≤ u2.heap.size ∧ Five u2 w.heap.size (.int .i64 E.k) (.int .i64 E.n) (.int .i64 E.ak) (.int .i64 E.at_) (.slice ad1 E.kids.length cap1) ∧ Five u2 (w.heap.size + 1) (.int .i64 0) (.int .i64 0) (.int .i64 0) (.int .i64 0) (.slice none 0 0) ∧ KO u2 (w.heap.size + 2) TOP (.slice ad1 E.kids.length cap1) E.kids ∧ Below w.heap.size w u2 ∧ ∀ i, i < 5 + 1 → ruleD i E = none) := ⟨by omega, E2, Z2, K2, G2, fun i hi => by
                rcases Nat.lt_or_ge i 5 with h | h
                · exact HR.out.2.2.2.2 i h
                · obtain rfl : i = 5 := by omega
                  rw [hrl]; rfl⟩
              clear Z2 V2 E2 K2 G2 HO2
              go_wp2
              try rw [hu2]
              go_roundw
              case rel => exact ⟨5 + 1, by omega, by go_num, HN.out.1, HN.out.2⟩
              case measure => simp [intOf]
        · obtain rfl : j = 6 := by omega
          have HX : Hid (slimD (d + 1) e = E) := by show slimD (d + 1) e = E; rw [HE.out.1]; exact shortD_none HR.out.2.2.2.2
          obtain ⟨u5, hu5, F5, N5, S5, B5⟩ := fiveStore HR.out.2.1 (.int .i64 E.k) (.int .i64 E.n) (.int .i64 E.ak) (.int .i64 E.at_) (.slice ad1 E.kids.length cap1)
          have HU5 : Hid (_ = u5) := hu5
          have HB : Hid (Below w.heap.size w u5 ∧ Five u5 (w.heap.size + 1) (.int .i64 E.k) (.int .i64 E.n) (.int .i64 E.ak) (.int .i64 E.at_) (.slice ad1 E.kids.length cap1) ∧ EO u5 w.heap.size u5.heap.size (.agg #[.int .i64 E.k, .int .i64 E.n, .int .i64 E.ak, .int .i64 E.at_, .slice ad1 E.kids.length cap1]) E) :=
            ⟨HR.out.2.2.2.1.trans (B5.mono (by omega)), F5, _, rfl, (HR.out.2.2.1.kept fun k q1 q2 => N5 k (by omega)).wide (by omega) (by omega)⟩
          obtain ⟨z0, z1, z2, z3, z4, zf⟩ := id HR.out.2.1
          have zf0 := zf 0
          have zf1 := zf 1
          have zf2 := zf 2
          have zf3 := zf 3
          have zf4 := zf 4
          clear hu5 F5 N5 B5 zf
          go_wp2
          rw [HU5.out]
          obtain ⟨r0, r1, r2, r3, r4, _⟩ := HB.out.2.1
          exact bodyPost_ret (v := .agg #[.int .i64 E.k, .int .i64 E.n, .int .i64 E.ak, .int .i64 E.at_, .slice ad1 E.kids.length cap1]) (by simp [results, Tryz.results33, go_sem, r0, r1, r2, r3, r4]) rfl ⟨_, rfl, by rw [HX.out]; exact HB.out.2.2, HB.out.1⟩
end Go.Proofs.YtkeockippmmneaaGreat
