/-
  What a part comes to, with its kids: partComes; ExprOf of the program.
-/
import Derived.Test.YtokphdpaghkakaaGreatComesA
import Derived.Test.YtokphdpaghkakaaGreatComesB
import Derived.Test.YtokphdpaghkakaaGreatM3
import Derived.Test.YtokphdpaghkakaaGreatPartsB
import Derived.Test.YtokphdpaghkakaaGreatExprOf2
namespace Go.Proofs.YtokphdpaghkakaaGreat
open Go.ChangeShapes Go.WideShapes Go.ChangeAt Go.RowKit
set_option linter.unusedVariables false
set_option maxRecDepth 100000

theorem calls_num_comes (args : Array Value) (w : World) : (callFunc 171 args).run Tryz.prog w = .ok (.enter 171 args) w := by kernel_rfl
theorem calls_addr_comes (args : Array Value) (w : World) : (callFunc 175 args).run Tryz.prog w = .ok (.enter 175 args) w := by kernel_rfl
theorem calls_two_comes (args : Array Value) (w : World) : (callFunc 180 args).run Tryz.prog w = .ok (.enter 180 args) w := by kernel_rfl
theorem calls_not_comes (args : Array Value) (w : World) : (callFunc 190 args).run Tryz.prog w = .ok (.enter 190 args) w := by kernel_rfl

/-- What stands in 'of' behind j rounds. -/
def valK (d : Nat) (md : MemD) (e : ExprD) (j i : Nat) : Int := if i < j then evalD d md (kidAt e i) else 0

theorem evalD_succ (d : Nat) (md : MemD) (e : ExprD) : evalD (d + 1) md e = if e.k = 1 then e.n else if e.k = 2 then ((memList md e.ak)[e.at_.toNat]?).getD 0
      else if e.k = 10 then isZ (!(evalD d md (kidAt e 0) != 0)) else twoZ e.k (evalD d md (kidAt e 0)) (evalD d md (kidAt e 1)) := by rw [evalD]

theorem comes_kind {d : Nat} {md : MemD} {e : ExprD} (hfm : formE (d + 1) e = true) (hmo : memOk md = true) (ad : Option Go.Addr) (cap lo' hi' : Nat) (m : Value) (m0 m1 m2 : Value) (hm : m = .agg #[m0, m1, m2]) :
    ∃ T v fc, kindV e.k = .iface T v ∧ (∀ w : World, (method 315 T v "loop.example/stopgate/impl.comes").run Tryz.prog w = .ok (fc, v) w) ∧ (∀ (args : Array Value) (w : World), (callFunc fc args).run Tryz.prog w = .ok (.enter fc args) w) ∧
      ∀ W : World, MI W lo' hi' m md → hi' ≤ W.heap.size → Calls Tryz.prog fc #[v, .agg #[.int .i64 e.k, .int .i64 e.n, .int .i64 e.ak, .int .i64 e.at_, .slice ad e.kids.length cap], m, .int .i64 (valK d md e e.kids.length 0), .int .i64 (valK d md e e.kids.length 1)] W fun en w' => en = .returned (.int .i64 (evalD (d + 1) md e)) ∧ Below W.heap.size W w' := by
  subst hm
  obtain ⟨f1, f2, f3, f4⟩ := form_parts hfm
  rw [evalD_succ]
  by_cases h1 : e.k = 1
  · refine ⟨184, .agg #[], 171, by unfold kindV; rw [if_pos h1], m_comes_num, calls_num_comes, fun W _ _ => ?_⟩
    rw [if_pos h1]
    exact comes_num W _ _ _ _ _ _ _ _ _ _ _ _
  rw [if_neg h1]
  by_cases h2 : e.k = 2
  · refine ⟨185, .agg #[], 175, by unfold kindV; rw [if_neg h1, if_pos h2], m_comes_addr, calls_addr_comes, fun W hW hh => ?_⟩
    rw [if_pos h2]
    have ha : addrOk ⟨e.ak, e.at_⟩ = true := by unfold aOk at f3; rwa [if_pos h2] at f3
    have hg : memGet md ⟨e.ak, e.at_⟩ = ((memList md e.ak)[e.at_.toNat]?).getD 0 := by unfold memGet; rw [hmo, ha]; rfl
    have := comes_addr W e.k e.n e.ak e.at_ ad e.kids.length cap _ lo' hi' md hW hh (valK d md e e.kids.length 0) (valK d md e e.kids.length 1)
    rwa [hg] at this
  rw [if_neg h2]
  by_cases h4 : e.k = 10
  · refine ⟨187, .agg #[], 190, by unfold kindV; rw [if_neg h1, if_neg h2, if_neg (by omega), if_pos h4], m_comes_not, calls_not_comes, fun W _ _ => ?_⟩
    rw [if_pos h4]
    have hl : e.kids.length = 1 := by unfold kidsOf at f1; rw [if_neg h1, if_neg h2, if_pos h4] at f1; omega
    have hv : valK d md e e.kids.length 0 = evalD d md (kidAt e 0) := by unfold valK; rw [if_pos (by omega)]
    rw [hv]
    exact comes_not W _ _ _ _ _ _ _ _ _ _ _ _
  · rw [if_neg h4]
    have h3 : 3 ≤ e.k ∧ e.k ≤ 9 := by
      unfold kidsOf at f1
      rw [if_neg h1, if_neg h2, if_neg h4] at f1
      split at f1
      · assumption
      · omega
    have hl : e.kids.length = 2 := by unfold kidsOf at f1; rw [if_neg h1, if_neg h2, if_neg h4, if_pos h3] at f1; omega
    refine ⟨186, .int .i64 e.k, 180, by unfold kindV; rw [if_neg h1, if_neg h2, if_pos h3], m_comes_two _, calls_two_comes, fun W _ _ => ?_⟩
    have hv0 : valK d md e e.kids.length 0 = evalD d md (kidAt e 0) := by unfold valK; rw [if_pos (by omega)]
    have hv1 : valK d md e e.kids.length 1 = evalD d md (kidAt e 1) := by unfold valK; rw [if_pos (by omega)]
    rw [hv0, hv1]
    exact comes_two W _ _ _ _ _ _ _ _ _ _ _ _ _ h3.1 h3.2

/-- A variable of two cells that may be written. -/
structure Two (u : World) (B : Nat) (x y : Value) : Prop where
  c0 : u.cell? ⟨B, 0, none⟩ = some x
  c1 : u.cell? ⟨B, 1, none⟩ = some y
  f : ∀ o, u.frozen? ⟨B, o, none⟩ = false

theorem two_new (u : World) (x y : Value) (t : TypeId) : Two (u.alloc (.cells #[x, y] t)) u.heap.size x y :=
  ⟨World.cell?_alloc_new _ _ _ _, World.cell?_alloc_new _ _ _ _, fun o => World.frozen?_alloc_new _ _ _ _⟩
theorem Two.under {u u' : World} {B n : Nat} {x y : Value} (h : Two u B x y) (hb : Below n u u') (hB : B < n) : Two u' B x y :=
  ⟨by rw [hb.cell (p := ⟨B, 0, none⟩) hB]; exact h.c0, by rw [hb.cell (p := ⟨B, 1, none⟩) hB]; exact h.c1, fun o => by rw [hb.frozen (p := ⟨B, o, none⟩) hB]; exact h.f o⟩
theorem Two.set0 {u : World} {B : Nat} {x y : Value} (h : Two u B x y) (v : Value) : Two (u.setCell ⟨B, 0, none⟩ v) B v y :=
  ⟨World.cell?_setCell_same' _ _ _ (by rw [h.c0]; rfl), by rw [cell_set_other u (.inr (by decide))]; exact h.c1, fun o => by rw [World.frozen?_setCell]; exact h.f o⟩
theorem Two.set1 {u : World} {B : Nat} {x y : Value} (h : Two u B x y) (v : Value) : Two (u.setCell ⟨B, 1, none⟩ v) B x v :=
  ⟨by rw [cell_set_other u (.inr (by decide))]; exact h.c0, World.cell?_setCell_same' _ _ _ (by rw [h.c1]; rfl), fun o => by rw [World.frozen?_setCell]; exact h.f o⟩

theorem Two.next {d : Nat} {md : MemD} {e : ExprD} {u : World} {B j : Nat} {x : ExprD} (h : Two u B (.int .i64 (valK d md e j 0)) (.int .i64 (valK d md e j 1))) (hj : j < 2) (hx : e.kids[j]? = some x) :
    Two (u.setCell ⟨B, j, none⟩ (.int .i64 (evalD d md x))) B (.int .i64 (valK d md e (j + 1) 0)) (.int .i64 (valK d md e (j + 1) 1)) := by
  have hk : kidAt e j = x := by unfold kidAt; rw [hx]; rfl
  obtain rfl | rfl : j = 0 ∨ j = 1 := by omega
  · have e0 : valK d md e (0 + 1) 0 = evalD d md x := by unfold valK; rw [if_pos (by omega), hk]
    have e1 : valK d md e (0 + 1) 1 = valK d md e 0 1 := by unfold valK; rw [if_neg (by omega), if_neg (by omega)]
    rw [e0, e1]; exact h.set0 _
  · have e1 : valK d md e (1 + 1) 1 = evalD d md x := by unfold valK; rw [if_pos (by omega), hk]
    have e0 : valK d md e (1 + 1) 0 = valK d md e 1 0 := by unfold valK; rw [if_pos (by omega), if_pos (by omega)]
    rw [e0, e1]; exact h.set1 _

theorem Two.at_ {d : Nat} {md : MemD} {e : ExprD} {u : World} {B j : Nat} (h : Two u B (.int .i64 (valK d md e j 0)) (.int .i64 (valK d md e j 1))) (hj : j < 2) : u.cell? ⟨B, j, none⟩ = some (.int .i64 0) := by
  obtain rfl | rfl : j = 0 ∨ j = 1 := by omega
  · have := h.c0; unfold valK at this; rwa [if_neg (by omega)] at this
  · have := h.c1; unfold valK at this; rwa [if_neg (by omega)] at this

/-- partComes, of what is not deeper than d. -/
def OfP (d : Nat) : Prop := ∀ (w : World) (lo hi lo' hi' : Nat) (s m : Value) (e : ExprD) (md : MemD), KR w lo hi s e.kids → MI w lo' hi' m md → hi ≤ w.heap.size → hi' ≤ w.heap.size → formE d e = true → memOk md = true →
  Calls Tryz.prog 71 #[.agg #[.int .i64 e.k, .int .i64 e.n, .int .i64 e.ak, .int .i64 e.at_, s], m] w fun en w' => en = .returned (.int .i64 (evalD d md e)) ∧ Below w.heap.size w w'

set_option maxHeartbeats 4000000 in
theorem ofP_step {d : Nat} (H : OfP d) : OfP (d + 1) := by
  intro w lo hi lo' hi' s m e md h hmi hhi hhi' hfm hmo
  obtain ⟨f1, f2, f3, f4⟩ := form_parts hfm
  obtain ⟨ad, cap, rfl, hc1, hc2⟩ := h.shape
  have hmx : e.kids.length ≤ 9223372036854775807 := by unfold maxLen at hc2; omega
  have hl2 : e.kids.length ≤ 2 := by have := (kidsOf_bd e.k).2; omega
  have HMI := hmi
  obtain ⟨m0, m1, m2, rfl, _, _, _⟩ := hmi
  obtain ⟨T, v1, fc, hkv, hmeth, hcall, hcon⟩ := comes_kind hfm hmo ad cap lo' hi' _ m0 m1 m2 rfl
  have hko := fun W => kindOf_any W e.k
  rw [hkv] at hko
  generalize evalD (d + 1) md e = r at *
  have HK : Hid (KR w lo hi (.slice ad e.kids.length cap) e.kids) := h
  have HM : Hid (MI w lo' hi' (.agg #[m0, m1, m2]) md) := HMI
  clear h HMI hfm hkv f1 f2 f3 hc1 hc2
  obtain ⟨u0, hu0, G0, A0, M0, T0, S0⟩ : ∃ u0, ((w.alloc (.cells #[.int .i64 e.k, .int .i64 e.n, .int .i64 e.ak, .int .i64 e.at_, .slice ad e.kids.length cap] 65)).alloc (.cells #[m0, m1, m2] 43)).alloc (.cells #[.int .i64 0, .int .i64 0] 157) = u0 ∧ Below w.heap.size w u0 ∧ Five u0 w.heap.size (.int .i64 e.k) (.int .i64 e.n) (.int .i64 e.ak) (.int .i64 e.at_) (.slice ad e.kids.length cap) ∧ Box3 u0 (w.heap.size + 1) m0 m1 m2 ∧ Two u0 (w.heap.size + 2) (.int .i64 0) (.int .i64 0) ∧ u0.heap.size = w.heap.size + 3 := by
    refine ⟨_, rfl, below_alloc3 w _ _ _, ?_, ?_, ?_, by simp⟩
    · exact (five_new w _ _ _ _ _ _).under (below_alloc2 _ _ _) (by simp)
    · have h := box3_new (w.alloc (.cells #[.int .i64 e.k, .int .i64 e.n, .int .i64 e.ak, .int .i64 e.at_, .slice ad e.kids.length cap] 65)) m0 m1 m2 43
      have h2 := h.below ((Below.refl _ _).alloc (Nat.le_refl _) (.cells #[.int .i64 0, .int .i64 0] 157)) (by simp)
      simpa using h2
    · have h := two_new ((w.alloc (.cells #[.int .i64 e.k, .int .i64 e.n, .int .i64 e.ak, .int .i64 e.at_, .slice ad e.kids.length cap] 65)).alloc (.cells #[m0, m1, m2] 43)) (.int .i64 0) (.int .i64 0) 157
      simpa using h
  have HA : Hid (Below w.heap.size w u0 ∧ Five u0 w.heap.size (.int .i64 e.k) (.int .i64 e.n) (.int .i64 e.ak) (.int .i64 e.at_) (.slice ad e.kids.length cap) ∧ Box3 u0 (w.heap.size + 1) m0 m1 m2 ∧ Two u0 (w.heap.size + 2) (.int .i64 0) (.int .i64 0)) := ⟨G0, A0, M0, T0⟩
  have c4 := A0.c4
  clear A0 M0 T0 G0
  go_enter Tryz.func71, Tryz.ntmps71
  go_wp2_with fail
  clear c4
  go_loopw [11] (fun i wr => ∃ j : Nat, j ≤ e.kids.length ∧ i = .int .i64 j ∧ u0.heap.size ≤ wr.heap.size ∧ Hid (Below (w.heap.size + 2) u0 wr ∧ Two wr (w.heap.size + 2) (.int .i64 (valK d md e j 0)) (.int .i64 (valK d md e j 1))))
    (fun i _ => e.kids.length - (intOf i).toNat)
  case atStart => exact ⟨0, Nat.zero_le _, rfl, Nat.le_refl _, Below.refl _ _, by have := HA.out.2.2.2; unfold valK; rwa [if_neg (by omega), if_neg (by omega)]⟩
  case round =>
    obtain ⟨j, hj, rfl, hs, HR⟩ := hrel
    by_cases hlt : j < e.kids.length
    · obtain ⟨x, hx⟩ : ∃ x, e.kids[j]? = some x := ⟨e.kids[j], List.getElem?_eq_getElem hlt⟩
      obtain ⟨b, off, cap', s, hv, hb1, hb2, h5, hk⟩ := HK.out.at_ hx
      simp only [Value.slice.injEq, true_and] at hv
      obtain ⟨rfl, rfl⟩ := hv
      obtain ⟨hq1, hq2⟩ := HR.out
      have hb : Below w.heap.size w wr := HA.out.1.trans (hq1.mono (by omega))
      obtain ⟨c0, c1, c2, c3, c4⟩ := h5
      rw [← hb.cell (p := ⟨b, off + j * 5, none⟩) (by show b < _; omega)] at c0
      rw [← hb.cell (p := ⟨b, off + j * 5 + 1, none⟩) (by show b < _; omega)] at c1
      rw [← hb.cell (p := ⟨b, off + j * 5 + 2, none⟩) (by show b < _; omega)] at c2
      rw [← hb.cell (p := ⟨b, off + j * 5 + 3, none⟩) (by show b < _; omega)] at c3
      rw [← hb.cell (p := ⟨b, off + j * 5 + 4, none⟩) (by show b < _; omega)] at c4
      obtain ⟨ads, cps, rfl, _, _⟩ := hk.shape
      obtain ⟨u1, hu1, G1, S1, F1⟩ : ∃ u1, wr.alloc (.cells #[.int .i64 x.k, .int .i64 x.n, .int .i64 x.ak, .int .i64 x.at_, .slice ads x.kids.length cps] 65) = u1 ∧ Below wr.heap.size wr u1 ∧ u1.heap.size = wr.heap.size + 1 ∧ Five u1 wr.heap.size (.int .i64 x.k) (.int .i64 x.n) (.int .i64 x.ak) (.int .i64 x.at_) (.slice ads x.kids.length cps) :=
        ⟨_, rfl, (Below.refl _ _).alloc (Nat.le_refl _) _, by simp, five_new wr _ _ _ _ _ _⟩
      have hb' : Below w.heap.size w u1 := hb.trans (G1.mono (by omega))
      have hC := H u1 lo hi lo' hi' (.slice ads x.kids.length cps) _ x md (hk.under hb' hhi) (HM.out.below hb' hhi') (by omega) (by omega) (f4 _ _ hx) hmo
      obtain ⟨m0c, m1c, m2c⟩ := (HA.out.2.2.1.below hq1 (by omega)).below G1 (by omega)
      have HG1 : Hid (Below wr.heap.size wr u1) := G1
      have HX : Hid (e.kids[j]? = some x) := hx
      obtain ⟨d0, d1, d2, d3, d4, _⟩ := F1
      clear hq1 hq2 hb hb' hk hx G1 H
      go_wp2_with (go_at_call 71; refine hC.mono ?_; clear hC; rintro e2 W2 ⟨rfl, g2⟩; have hT2 := ((HR.out.2.under HG1.out (by omega)).under g2 (by omega)); have k1 := hT2.at_ (by omega); have k2 := hT2.f j; have hs2 := g2.size)
      go_roundw
      case rel =>
        refine ⟨j + 1, by omega, by go_num, by simp; omega, ?_, hT2.next (by omega) HX.out⟩
        exact (HR.out.1.trans ((HG1.out.trans (g2.mono (by omega))).mono (by omega))).setCell (p := ⟨w.heap.size + 2, j, none⟩) (Nat.le_refl _) _
      case measure => simp [intOf]; omega
    · obtain rfl : j = e.kids.length := by omega
      obtain ⟨hq1, hq2⟩ := HR.out
      have HB : Hid (Below w.heap.size w wr ∧ Five wr w.heap.size (.int .i64 e.k) (.int .i64 e.n) (.int .i64 e.ak) (.int .i64 e.at_) (.slice ad e.kids.length cap) ∧ Box3 wr (w.heap.size + 1) m0 m1 m2 ∧ Two wr (w.heap.size + 2) (.int .i64 (valK d md e e.kids.length 0)) (.int .i64 (valK d md e e.kids.length 1))) :=
        ⟨HA.out.1.trans (hq1.mono (by omega)), HA.out.2.1.under hq1 (by omega), HA.out.2.2.1.below hq1 (by omega), hq2⟩
      obtain ⟨c0, c1, c2, c3, c4, _⟩ := HB.out.2.1
      obtain ⟨m0c, m1c, m2c⟩ := HB.out.2.2.1
      obtain ⟨t0, t1, _⟩ := HB.out.2.2.2
      have hM : ∀ W, Below wr.heap.size wr W → MI W lo' hi' (.agg #[m0, m1, m2]) md := fun W hW => (HM.out.below HB.out.1 hhi').below hW (by omega)
      generalize valK d md e e.kids.length 0 = r0 at *
      generalize valK d md e e.kids.length 1 = r1 at *
      clear hq1 hq2 HR H HK
      go_wp2_with fail
      refine wp_region_dag (R := Grow) (Φ := fun i v u => match i with
          | 0 => v = .pointer (some ⟨w.heap.size, 0, none⟩)
          | 1 => v = .int .i64 e.k
          | 2 => v = .iface T v1
          | 3 => v = .agg #[.int .i64 e.k, .int .i64 e.n, .int .i64 e.ak, .int .i64 e.at_, .slice ad e.kids.length cap]
          | 4 => v = .agg #[m0, m1, m2]
          | 5 => v = .pointer (some ⟨w.heap.size + 2, 0, none⟩)
          | 6 => v = .int .i64 r0
          | 7 => v = .pointer (some ⟨w.heap.size + 2, 1, none⟩)
          | 8 => v = .int .i64 r1
          | 9 => v = .int .i64 r
          | 10 => v = .int .i64 r
          | _ => True) (by kernel_rfl) (by kernel_rfl) (by kernel_rfl) (Below.refl _ _) grow_trans ?_ ?_ ?_
      · intro i v u u' hr
        match i with
        | 0 | 1 | 2 | 3 | 4 | 5 | 6 | 7 | 8 | 9 | 10 | _ + 11 => exact fun h => h
      · intro i o ho a u hf hR0 he K' hK
        have hR : Grow wr u := (Below.drew (Below.refl _ _)).trans hR0
        have hsz' : a.tmps.size = 32 := hf.size
        have hus : wr.heap.size ≤ u.heap.size := hR.size
        rcases i with _ | _ | _ | _ | _ | _ | _ | _ | _ | _ | _ | i
        · obtain rfl := Option.some.inj ho
          have q2 : a.tmps.getD 2 undef = .pointer (some ⟨w.heap.size, 0, none⟩) := hf.at_ 2 (by kernel_rfl)
          clear he
          go_simp
          exact hK _ _ (Below.refl _ _) (getD_put_self a 22 _ (by show _ < a.tmps.size; omega))
        · obtain rfl := Option.some.inj ho
          have q22 : a.tmps.getD 22 undef = .pointer (some ⟨w.heap.size, 0, none⟩) := he _ (Array.mem_of_getElem? (i := 0) rfl) (by kernel_rfl) _ rfl
          clear he
          obtain ⟨c0, c1, c2, c3, c4, _⟩ := HB.out.2.1.under hR (by omega)
          go_simp
          exact hK _ _ (Below.refl _ _) (getD_put_self a 23 _ (by show _ < a.tmps.size; omega))
        · obtain rfl := Option.some.inj ho
          have q23 : a.tmps.getD 23 undef = .int .i64 e.k := he _ (Array.mem_of_getElem? (i := 0) rfl) (by kernel_rfl) _ rfl
          clear he
          go_simp
          refine (hko _).mono ?_
          rintro e1 u' ⟨rfl, rfl⟩
          exact hK _ _ (Below.refl _ _) (getD_put_self a 24 _ (by show _ < a.tmps.size; omega))
        · obtain rfl := Option.some.inj ho
          have q2 : a.tmps.getD 2 undef = .pointer (some ⟨w.heap.size, 0, none⟩) := hf.at_ 2 (by kernel_rfl)
          clear he
          obtain ⟨c0, c1, c2, c3, c4, _⟩ := HB.out.2.1.under hR (by omega)
          go_simp
          exact hK _ _ (Below.refl _ _) (getD_put_self a 25 _ (by show _ < a.tmps.size; omega))
        · obtain rfl := Option.some.inj ho
          have q3 : a.tmps.getD 3 undef = .pointer (some ⟨w.heap.size + 1, 0, none⟩) := hf.at_ 3 (by kernel_rfl)
          clear he
          obtain ⟨c0, c1, c2⟩ := HB.out.2.2.1.below hR (by omega)
          go_simp
          exact hK _ _ (Below.refl _ _) (getD_put_self a 26 _ (by show _ < a.tmps.size; omega))
        · obtain rfl := Option.some.inj ho
          have q5 : a.tmps.getD 5 undef = .pointer (some ⟨w.heap.size + 2, 0, none⟩) := hf.at_ 5 (by kernel_rfl)
          clear he
          go_simp
          exact hK _ _ (Below.refl _ _) (getD_put_self a 27 _ (by show _ < a.tmps.size; omega))
        · obtain rfl := Option.some.inj ho
          have q27 : a.tmps.getD 27 undef = .pointer (some ⟨w.heap.size + 2, 0, none⟩) := he _ (Array.mem_of_getElem? (i := 0) rfl) (by kernel_rfl) _ rfl
          clear he
          obtain ⟨c0, c1, _⟩ := HB.out.2.2.2.under hR (by omega)
          go_simp
          exact hK _ _ (Below.refl _ _) (getD_put_self a 28 _ (by show _ < a.tmps.size; omega))
        · obtain rfl := Option.some.inj ho
          have q5 : a.tmps.getD 5 undef = .pointer (some ⟨w.heap.size + 2, 0, none⟩) := hf.at_ 5 (by kernel_rfl)
          clear he
          go_simp
          exact hK _ _ (Below.refl _ _) (getD_put_self a 29 _ (by show _ < a.tmps.size; omega))
        · obtain rfl := Option.some.inj ho
          have q29 : a.tmps.getD 29 undef = .pointer (some ⟨w.heap.size + 2, 1, none⟩) := he _ (Array.mem_of_getElem? (i := 0) rfl) (by kernel_rfl) _ rfl
          clear he
          obtain ⟨c0, c1, _⟩ := HB.out.2.2.2.under hR (by omega)
          go_simp
          exact hK _ _ (Below.refl _ _) (getD_put_self a 30 _ (by show _ < a.tmps.size; omega))
        · obtain rfl := Option.some.inj ho
          have q24 : a.tmps.getD 24 undef = .iface T v1 := he _ (Array.mem_of_getElem? (i := 0) rfl) (by kernel_rfl) _ rfl
          have q25 : a.tmps.getD 25 undef = .agg #[.int .i64 e.k, .int .i64 e.n, .int .i64 e.ak, .int .i64 e.at_, .slice ad e.kids.length cap] := he _ (Array.mem_of_getElem? (i := 1) rfl) (by kernel_rfl) _ rfl
          have q26 : a.tmps.getD 26 undef = .agg #[m0, m1, m2] := he _ (Array.mem_of_getElem? (i := 2) rfl) (by kernel_rfl) _ rfl
          have q28 : a.tmps.getD 28 undef = .int .i64 r0 := he _ (Array.mem_of_getElem? (i := 3) rfl) (by kernel_rfl) _ rfl
          have q30 : a.tmps.getD 30 undef = .int .i64 r1 := he _ (Array.mem_of_getElem? (i := 4) rfl) (by kernel_rfl) _ rfl
          clear he
          go_simp
          refine (hcon _ (hM _ hR) (by omega)).mono ?_
          rintro e1 u' ⟨rfl, hbu⟩
          exact hK _ _ hbu (getD_put_self a 31 _ (by show _ < a.tmps.size; omega))
        · obtain rfl := Option.some.inj ho
          have q31 : a.tmps.getD 31 undef = .int .i64 r := he _ (Array.mem_of_getElem? (i := 0) rfl) (by kernel_rfl) _ rfl
          clear he
          go_simp
          exact hK _ _ (Below.refl _ _) (getD_put_self a 4 _ (by show _ < a.tmps.size; omega))
        · exact absurd ho (by simp)
      · intro a u hf hR0 hp
        have hR : Grow wr u := (Below.drew (Below.refl _ _)).trans hR0
        have md : a.defers = [] := hf.defers
        have m4 : a.tmps.getD 4 undef = .int .i64 r := hp 10 _ rfl
        obtain ⟨f, ea, hfv⟩ := act_lit a 32 hf.size
        rw [← hfv] at m4
        rw [md] at ea
        simp only [List.range, List.range.loop, List.map_cons, List.map_nil, m4] at ea
        subst ea
        clear hfv hf md hp hR0
        go_wp2
        go_ret
        exact ⟨rfl, HB.out.1.trans (hR.mono (by omega))⟩
end Go.Proofs.YtokphdpaghkakaaGreat
