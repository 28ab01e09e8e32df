/-
  Chapter 10's program: what a part comes to whose kids are numbers, of whatever memory.
-/
import Derived.Test.YtkeockippmmneaaGreatQS5
import Derived.Test.YtkeockippmmneaaGreatDag
import Derived.Test.YtkeockippmmneaaGreatQS6
import Derived.Test.YtkeockippmmneaaGreatSlimED
namespace Go.Proofs.YtkeockippmmneaaGreat
open Go.ChangeShapes Go.WideShapes Go.ChangeAt Go.RowKit
set_option linter.unusedVariables false
set_option maxRecDepth 100000

theorem calls_num_comesN (args : Array Value) (w : World) : (callFunc 112 args).run Tryz.prog w = .ok (.enter 112 args) w := by kernel_rfl
theorem calls_two_comesN (args : Array Value) (w : World) : (callFunc 127 args).run Tryz.prog w = .ok (.enter 127 args) w := by kernel_rfl
theorem calls_not_comesN (args : Array Value) (w : World) : (callFunc 138 args).run Tryz.prog w = .ok (.enter 138 args) w := by kernel_rfl

theorem below_alloc3N (w : World) (x y z : Obj) : Below w.heap.size w (((w.alloc x).alloc y).alloc z) := (((Below.refl w.heap.size w).alloc (Nat.le_refl _) x).alloc (by simp) y).alloc (by simp; omega) z

theorem comes_numN (w : World) (k n a t : Int) (ad : Option Go.Addr) (len cap : Nat) (m0 m1 m2 : Value) (x y : Int) :
    Calls Tryz.prog 112 #[.agg #[], .agg #[.int .i64 k, .int .i64 n, .int .i64 a, .int .i64 t, .slice ad len cap], .agg #[m0, m1, m2], .int .i64 x, .int .i64 y] w fun e w' => e = .returned (.int .i64 n) ∧ Below w.heap.size w w' := by
  have b3 := below_alloc3N w
  go_enter Tryz.func112, Tryz.ntmps112
  go_wp2
  go_ret
  exact ⟨rfl, b3 _ _ _⟩

set_option maxHeartbeats 1000000 in
theorem comes_notN (w : World) (k n a t : Int) (ad : Option Go.Addr) (len cap : Nat) (m0 m1 m2 : Value) (x y : Int) :
    Calls Tryz.prog 138 #[.agg #[], .agg #[.int .i64 k, .int .i64 n, .int .i64 a, .int .i64 t, .slice ad len cap], .agg #[m0, m1, m2], .int .i64 x, .int .i64 y] w fun e w' => e = .returned (.int .i64 (isZ (!(x != 0)))) ∧ Below w.heap.size w w' := by
  have b3 := below_alloc3N w
  unfold isZ
  by_cases h : x = 0
  · subst h
    go_enter Tryz.func138, Tryz.ntmps138
    go_wp2
    go_ret
    exact ⟨rfl, b3 _ _ _⟩
  · have e1 : (x != 0) = true := by simp [h]
    rw [e1]
    go_enter Tryz.func138, Tryz.ntmps138
    go_wp2
    go_ret
    exact ⟨rfl, b3 _ _ _⟩

/-- What stands in 'of' behind j rounds. -/
def valN (e : ExprD) (j i : Nat) : Int := if i < j then (kidN e i).n else 0

/-- What a part comes to whose kids are numbers. -/
def numVal (e : ExprD) : Int := if e.k = 1 then e.n else if e.k = 10 then isZ (!((kidN e 0).n != 0)) else twoZ e.k (kidN e 0).n (kidN e 1).n

/-- A part whose kids are numbers. -/
def NumP (e : ExprD) : Prop := (e.k = 1 ∧ e.kids.length = 0) ∨ (e.k = 10 ∧ e.kids.length = 1) ∨ ((3 ≤ e.k ∧ e.k ≤ 9) ∧ e.kids.length = 2)

theorem numkind {e : ExprD} (hN : NumP e) (ad : Option Go.Addr) (cap : Nat) (m0 m1 m2 : Value) :
    ∃ T v fc, kindV e.k = .iface T v ∧ (∀ w : World, (method 256 T v "loop.example/stopgate/impl.comes").run Tryz.prog w = .ok (fc, v) w) ∧ (∀ (args : Array Value) (w : World), (callFunc fc args).run Tryz.prog w = .ok (.enter fc args) w) ∧
      ∀ W : World, Calls Tryz.prog fc #[v, .agg #[.int .i64 e.k, .int .i64 e.n, .int .i64 e.ak, .int .i64 e.at_, .slice ad e.kids.length cap], .agg #[m0, m1, m2], .int .i64 (valN e e.kids.length 0), .int .i64 (valN e e.kids.length 1)] W fun en w' => en = .returned (.int .i64 (numVal e)) ∧ Below W.heap.size W w' := by
  unfold numVal
  rcases hN with ⟨h1, hl⟩ | ⟨h1, hl⟩ | ⟨h1, hl⟩
  · refine ⟨111, .agg #[], 112, by unfold kindV; rw [if_pos h1], m_comes_num, calls_num_comesN, fun W => ?_⟩
    rw [if_pos h1]
    exact comes_numN W _ _ _ _ _ _ _ _ _ _ _ _
  · refine ⟨114, .agg #[], 138, by unfold kindV; rw [if_neg (by omega), if_neg (by omega), if_neg (by omega), if_pos h1], m_comes_not, calls_not_comesN, fun W => ?_⟩
    rw [if_neg (by omega), if_pos h1]
    have hv : valN e e.kids.length 0 = (kidN e 0).n := by unfold valN; rw [if_pos (by omega)]
    rw [hv]
    exact comes_notN W _ _ _ _ _ _ _ _ _ _ _ _
  · refine ⟨113, .int .i64 e.k, 127, by unfold kindV; rw [if_neg (by omega), if_neg (by omega), if_pos h1], m_comes_two _, calls_two_comesN, fun W => ?_⟩
    rw [if_neg (by omega), if_neg (by omega)]
    have hv0 : valN e e.kids.length 0 = (kidN e 0).n := by unfold valN; rw [if_pos (by omega)]
    have hv1 : valN e e.kids.length 1 = (kidN e 1).n := by unfold valN; rw [if_pos (by omega)]
    rw [hv0, hv1]
    exact comes_two W _ _ _ _ _ _ _ _ _ _ _ _ _ h1.1 h1.2

/-- A variable of two cells that may be written. -/
structure Two (u : World) (B : Nat) (x y : Value) : Prop where
  c0 : u.cell? ⟨B, 0, none⟩ = some x
  c1 : u.cell? ⟨B, 1, none⟩ = some y
  f : ∀ o, u.frozen? ⟨B, o, none⟩ = false

theorem two_new (u : World) (x y : Value) (t : TypeId) : Two (u.alloc (.cells #[x, y] t)) u.heap.size x y :=
  ⟨World.cell?_alloc_new _ _ _ _, World.cell?_alloc_new _ _ _ _, fun o => World.frozen?_alloc_new _ _ _ _⟩
theorem Two.under {u u' : World} {B n : Nat} {x y : Value} (h : Two u B x y) (hb : Below n u u') (hB : B < n) : Two u' B x y :=
  ⟨by rw [hb.cell (p := ⟨B, 0, none⟩) hB]; exact h.c0, by rw [hb.cell (p := ⟨B, 1, none⟩) hB]; exact h.c1, fun o => by rw [hb.frozen (p := ⟨B, o, none⟩) hB]; exact h.f o⟩
theorem Two.set0 {u : World} {B : Nat} {x y : Value} (h : Two u B x y) (v : Value) : Two (u.setCell ⟨B, 0, none⟩ v) B v y :=
  ⟨World.cell?_setCell_same' _ _ _ (by rw [h.c0]; rfl), by rw [cell_set_other u (.inr (by decide))]; exact h.c1, fun o => by rw [World.frozen?_setCell]; exact h.f o⟩
theorem Two.set1 {u : World} {B : Nat} {x y : Value} (h : Two u B x y) (v : Value) : Two (u.setCell ⟨B, 1, none⟩ v) B x v :=
  ⟨by rw [cell_set_other u (.inr (by decide))]; exact h.c0, World.cell?_setCell_same' _ _ _ (by rw [h.c1]; rfl), fun o => by rw [World.frozen?_setCell]; exact h.f o⟩

theorem Two.nextN {e : ExprD} {u : World} {B j : Nat} {x : ExprD} (h : Two u B (.int .i64 (valN e j 0)) (.int .i64 (valN e j 1))) (hj : j < 2) (hx : e.kids[j]? = some x) :
    Two (u.setCell ⟨B, j, none⟩ (.int .i64 x.n)) B (.int .i64 (valN e (j + 1) 0)) (.int .i64 (valN e (j + 1) 1)) := by
  have hk : kidN e j = x := by unfold kidN; rw [hx]; rfl
  obtain rfl | rfl : j = 0 ∨ j = 1 := by omega
  · have e0 : valN e (0 + 1) 0 = x.n := by unfold valN; rw [if_pos (by omega), hk]
    have e1 : valN e (0 + 1) 1 = valN e 0 1 := by unfold valN; rw [if_neg (by omega), if_neg (by omega)]
    rw [e0, e1]; exact h.set0 _
  · have e1 : valN e (1 + 1) 1 = x.n := by unfold valN; rw [if_pos (by omega), hk]
    have e0 : valN e (1 + 1) 0 = valN e 1 0 := by unfold valN; rw [if_pos (by omega), if_pos (by omega)]
    rw [e0, e1]; exact h.set1 _

theorem Two.atN {e : ExprD} {u : World} {B j : Nat} (h : Two u B (.int .i64 (valN e j 0)) (.int .i64 (valN e j 1))) (hj : j < 2) : u.cell? ⟨B, j, none⟩ = some (.int .i64 0) := by
  obtain rfl | rfl : j = 0 ∨ j = 1 := by omega
  · have := h.c0; unfold valN at this; rwa [if_neg (by omega)] at this
  · have := h.c1; unfold valN at this; rwa [if_neg (by omega)] at this

set_option maxHeartbeats 4000000 in
theorem numComes_of (w : World) (lo hi : Nat) (s m0 m1 m2 : Value) (e : ExprD) (h : KR w lo hi s e.kids) (hhi : hi ≤ w.heap.size) (hN : NumP e)
    (H : ∀ x, x ∈ e.kids → ∀ (W : World) (s : Value), KR W lo hi s x.kids → hi ≤ W.heap.size → Calls Tryz.prog 76 #[.agg #[.int .i64 x.k, .int .i64 x.n, .int .i64 x.ak, .int .i64 x.at_, s], .agg #[m0, m1, m2]] W fun en w' => en = .returned (.int .i64 x.n) ∧ Below W.heap.size W w') :
    Calls Tryz.prog 76 #[.agg #[.int .i64 e.k, .int .i64 e.n, .int .i64 e.ak, .int .i64 e.at_, s], .agg #[m0, m1, m2]] w fun en w' => en = .returned (.int .i64 (numVal e)) ∧ Below w.heap.size w w' := by
  obtain ⟨ad, cap, rfl, hc1, hc2⟩ := h.shape
  have hmx : e.kids.length ≤ 9223372036854775807 := by unfold maxLen at hc2; omega
  have hl2 : e.kids.length ≤ 2 := by unfold NumP at hN; omega
  obtain ⟨T, v1, fc, hkv, hmeth, hcall, hcon⟩ := numkind hN ad cap m0 m1 m2
  have hko := fun W => kindOf_any W e.k
  rw [hkv] at hko
  generalize numVal e = r at *
  have HK : Hid (KR w lo hi (.slice ad e.kids.length cap) e.kids) := h
  have HH : Hid (∀ x, x ∈ e.kids → ∀ (W : World) (s : Value), KR W lo hi s x.kids → hi ≤ W.heap.size → Calls Tryz.prog 76 #[.agg #[.int .i64 x.k, .int .i64 x.n, .int .i64 x.ak, .int .i64 x.at_, s], .agg #[m0, m1, m2]] W fun en w' => en = .returned (.int .i64 x.n) ∧ Below W.heap.size W w') := H
  clear h hkv hc1 hc2 hN H
  obtain ⟨u0, hu0, G0, A0, M0, T0, S0⟩ : ∃ u0, ((w.alloc (.cells #[.int .i64 e.k, .int .i64 e.n, .int .i64 e.ak, .int .i64 e.at_, .slice ad e.kids.length cap] 42)).alloc (.cells #[m0, m1, m2] 101)).alloc (.cells #[.int .i64 0, .int .i64 0] 115) = u0 ∧ Below w.heap.size w u0 ∧ Five u0 w.heap.size (.int .i64 e.k) (.int .i64 e.n) (.int .i64 e.ak) (.int .i64 e.at_) (.slice ad e.kids.length cap) ∧ Three u0 (w.heap.size + 1) m0 m1 m2 ∧ Two u0 (w.heap.size + 2) (.int .i64 0) (.int .i64 0) ∧ u0.heap.size = w.heap.size + 3 := by
    refine ⟨_, rfl, below_alloc3N w _ _ _, ?_, ?_, ?_, by simp⟩
    · exact (five_new w _ _ _ _ _ _).under (below_alloc2 _ _ _) (by simp)
    · have h := three_new (w.alloc (.cells #[.int .i64 e.k, .int .i64 e.n, .int .i64 e.ak, .int .i64 e.at_, .slice ad e.kids.length cap] 42)) m0 m1 m2 101
      have h2 := h.at_ (((Below.refl _ _).alloc (Nat.le_refl _) (.cells #[.int .i64 0, .int .i64 0] 115)).block _ (by simp))
      simpa using h2
    · have h := two_new ((w.alloc (.cells #[.int .i64 e.k, .int .i64 e.n, .int .i64 e.ak, .int .i64 e.at_, .slice ad e.kids.length cap] 42)).alloc (.cells #[m0, m1, m2] 101)) (.int .i64 0) (.int .i64 0) 115
      simpa using h
  have HA : Hid (Below w.heap.size w u0 ∧ Five u0 w.heap.size (.int .i64 e.k) (.int .i64 e.n) (.int .i64 e.ak) (.int .i64 e.at_) (.slice ad e.kids.length cap) ∧ Three u0 (w.heap.size + 1) m0 m1 m2 ∧ Two u0 (w.heap.size + 2) (.int .i64 0) (.int .i64 0)) := ⟨G0, A0, M0, T0⟩
  have c4 := A0.c4
  clear A0 M0 T0 G0
  go_enter Tryz.func76, Tryz.ntmps76
  go_wp2_with fail
  clear c4
  go_loopw [11] (fun i wr => ∃ j : Nat, j ≤ e.kids.length ∧ i = .int .i64 j ∧ u0.heap.size ≤ wr.heap.size ∧ Hid (Below (w.heap.size + 2) u0 wr ∧ Two wr (w.heap.size + 2) (.int .i64 (valN e j 0)) (.int .i64 (valN e j 1))))
    (fun i _ => e.kids.length - (intOf i).toNat)
  case atStart => exact ⟨0, Nat.zero_le _, rfl, Nat.le_refl _, Below.refl _ _, by have := HA.out.2.2.2; unfold valN; rwa [if_neg (by omega), if_neg (by omega)]⟩
  case round =>
    obtain ⟨j, hj, rfl, hs, HR⟩ := hrel
    by_cases hlt : j < e.kids.length
    · obtain ⟨x, hx⟩ : ∃ x, e.kids[j]? = some x := ⟨e.kids[j], List.getElem?_eq_getElem hlt⟩
      obtain ⟨b, off, cap', s, hv, hb1, hb2, h5, hk⟩ := HK.out.at_ hx
      simp only [Value.slice.injEq, true_and] at hv
      obtain ⟨rfl, rfl⟩ := hv
      obtain ⟨hq1, hq2⟩ := HR.out
      have hb : Below w.heap.size w wr := HA.out.1.trans (hq1.mono (by omega))
      obtain ⟨c0, c1, c2, c3, c4⟩ := h5
      rw [← hb.cell (p := ⟨b, off + j * 5, none⟩) (by show b < _; omega)] at c0
      rw [← hb.cell (p := ⟨b, off + j * 5 + 1, none⟩) (by show b < _; omega)] at c1
      rw [← hb.cell (p := ⟨b, off + j * 5 + 2, none⟩) (by show b < _; omega)] at c2
      rw [← hb.cell (p := ⟨b, off + j * 5 + 3, none⟩) (by show b < _; omega)] at c3
      rw [← hb.cell (p := ⟨b, off + j * 5 + 4, none⟩) (by show b < _; omega)] at c4
      obtain ⟨ads, cps, rfl, _, _⟩ := hk.shape
      obtain ⟨u1, hu1, G1, S1, F1⟩ : ∃ u1, wr.alloc (.cells #[.int .i64 x.k, .int .i64 x.n, .int .i64 x.ak, .int .i64 x.at_, .slice ads x.kids.length cps] 42) = u1 ∧ Below wr.heap.size wr u1 ∧ u1.heap.size = wr.heap.size + 1 ∧ Five u1 wr.heap.size (.int .i64 x.k) (.int .i64 x.n) (.int .i64 x.ak) (.int .i64 x.at_) (.slice ads x.kids.length cps) :=
        ⟨_, rfl, (Below.refl _ _).alloc (Nat.le_refl _) _, by simp, five_new wr _ _ _ _ _ _⟩
      have hb' : Below w.heap.size w u1 := hb.trans (G1.mono (by omega))
      have hC := HH.out x (List.mem_of_getElem? hx) u1 (.slice ads x.kids.length cps) (hk.under hb' hhi) (by omega)
      obtain ⟨m0c, m1c, m2c, _⟩ := (HA.out.2.2.1.at_ (hq1.block _ (by omega))).at_ (G1.block _ (by omega))
      have HG1 : Hid (Below wr.heap.size wr u1) := G1
      have HX : Hid (e.kids[j]? = some x) := hx
      obtain ⟨d0, d1, d2, d3, d4, _⟩ := F1
      clear hq1 hq2 hb hb' hk hx G1
      go_wp2_with (go_at_call 76; refine hC.mono ?_; clear hC; rintro e2 W2 ⟨rfl, g2⟩; have hT2 := ((HR.out.2.under HG1.out (by omega)).under g2 (by omega)); have k1 := hT2.atN (by omega); have k2 := hT2.f j; have hs2 := g2.size)
      go_roundw
      case rel =>
        refine ⟨j + 1, by omega, by go_num, by simp; omega, ?_, hT2.nextN (by omega) HX.out⟩
        exact (HR.out.1.trans ((HG1.out.trans (g2.mono (by omega))).mono (by omega))).setCell (p := ⟨w.heap.size + 2, j, none⟩) (Nat.le_refl _) _
      case measure => simp [intOf]; omega
    · obtain rfl : j = e.kids.length := by omega
      obtain ⟨hq1, hq2⟩ := HR.out
      have HB : Hid (Below w.heap.size w wr ∧ Five wr w.heap.size (.int .i64 e.k) (.int .i64 e.n) (.int .i64 e.ak) (.int .i64 e.at_) (.slice ad e.kids.length cap) ∧ Three wr (w.heap.size + 1) m0 m1 m2 ∧ Two wr (w.heap.size + 2) (.int .i64 (valN e e.kids.length 0)) (.int .i64 (valN e e.kids.length 1))) :=
        ⟨HA.out.1.trans (hq1.mono (by omega)), HA.out.2.1.under hq1 (by omega), HA.out.2.2.1.at_ (hq1.block _ (by omega)), hq2⟩
      obtain ⟨c0, c1, c2, c3, c4, _⟩ := HB.out.2.1
      obtain ⟨m0c, m1c, m2c, _⟩ := HB.out.2.2.1
      obtain ⟨t0, t1, _⟩ := HB.out.2.2.2
      generalize valN e e.kids.length 0 = r0 at *
      generalize valN e e.kids.length 1 = r1 at *
      clear hq1 hq2 HR HH HK
      go_wp2_with fail
      refine wp_region_dag (R := Grow) (Φ := fun i v u => match i with
          | 0 => v = .pointer (some ⟨w.heap.size, 0, none⟩)
          | 1 => v = .int .i64 e.k
          | 2 => v = .iface T v1
          | 3 => v = .agg #[.int .i64 e.k, .int .i64 e.n, .int .i64 e.ak, .int .i64 e.at_, .slice ad e.kids.length cap]
          | 4 => v = .agg #[m0, m1, m2]
          | 5 => v = .pointer (some ⟨w.heap.size + 2, 0, none⟩)
          | 6 => v = .int .i64 r0
          | 7 => v = .pointer (some ⟨w.heap.size + 2, 1, none⟩)
          | 8 => v = .int .i64 r1
          | 9 => v = .int .i64 r
          | 10 => v = .int .i64 r
          | _ => True) (by kernel_rfl) (by kernel_rfl) (by kernel_rfl) (Below.refl _ _) grow_trans ?_ ?_ ?_
      · intro i v u u' hr
        match i with
        | 0 | 1 | 2 | 3 | 4 | 5 | 6 | 7 | 8 | 9 | 10 | _ + 11 => exact fun h => h
      · intro i o ho a u hf hR0 he K' hK
        have hR : Grow wr u := (Below.drew (Below.refl _ _)).trans hR0
        have hsz' : a.tmps.size = 32 := hf.size
        have hus : wr.heap.size ≤ u.heap.size := hR.size
        rcases i with _ | _ | _ | _ | _ | _ | _ | _ | _ | _ | _ | i
        · obtain rfl := Option.some.inj ho
          have q2 : a.tmps.getD 2 undef = .pointer (some ⟨w.heap.size, 0, none⟩) := hf.at_ 2 (by kernel_rfl)
          clear he
          go_simp
          exact hK _ _ (Below.refl _ _) (getD_put_self a 22 _ (by show _ < a.tmps.size; omega))
        · obtain rfl := Option.some.inj ho
          have q22 : a.tmps.getD 22 undef = .pointer (some ⟨w.heap.size, 0, none⟩) := he _ (Array.mem_of_getElem? (i := 0) rfl) (by kernel_rfl) _ rfl
          clear he
          obtain ⟨c0, c1, c2, c3, c4, _⟩ := HB.out.2.1.under hR (by omega)
          go_simp
          exact hK _ _ (Below.refl _ _) (getD_put_self a 23 _ (by show _ < a.tmps.size; omega))
        · obtain rfl := Option.some.inj ho
          have q23 : a.tmps.getD 23 undef = .int .i64 e.k := he _ (Array.mem_of_getElem? (i := 0) rfl) (by kernel_rfl) _ rfl
          clear he
          go_simp
          refine (hko _).mono ?_
          rintro e1 u' ⟨rfl, rfl⟩
          exact hK _ _ (Below.refl _ _) (getD_put_self a 24 _ (by show _ < a.tmps.size; omega))
        · obtain rfl := Option.some.inj ho
          have q2 : a.tmps.getD 2 undef = .pointer (some ⟨w.heap.size, 0, none⟩) := hf.at_ 2 (by kernel_rfl)
          clear he
          obtain ⟨c0, c1, c2, c3, c4, _⟩ := HB.out.2.1.under hR (by omega)
          go_simp
          exact hK _ _ (Below.refl _ _) (getD_put_self a 25 _ (by show _ < a.tmps.size; omega))
        · obtain rfl := Option.some.inj ho
          have q3 : a.tmps.getD 3 undef = .pointer (some ⟨w.heap.size + 1, 0, none⟩) := hf.at_ 3 (by kernel_rfl)
          clear he
          obtain ⟨c0, c1, c2, _⟩ := HB.out.2.2.1.at_ (hR.block _ (by omega))
          go_simp
          exact hK _ _ (Below.refl _ _) (getD_put_self a 26 _ (by show _ < a.tmps.size; omega))
        · obtain rfl := Option.some.inj ho
          have q5 : a.tmps.getD 5 undef = .pointer (some ⟨w.heap.size + 2, 0, none⟩) := hf.at_ 5 (by kernel_rfl)
          clear he
          go_simp
          exact hK _ _ (Below.refl _ _) (getD_put_self a 27 _ (by show _ < a.tmps.size; omega))
        · obtain rfl := Option.some.inj ho
          have q27 : a.tmps.getD 27 undef = .pointer (some ⟨w.heap.size + 2, 0, none⟩) := he _ (Array.mem_of_getElem? (i := 0) rfl) (by kernel_rfl) _ rfl
          clear he
          obtain ⟨c0, c1, _⟩ := HB.out.2.2.2.under hR (by omega)
          go_simp
          exact hK _ _ (Below.refl _ _) (getD_put_self a 28 _ (by show _ < a.tmps.size; omega))
        · obtain rfl := Option.some.inj ho
          have q5 : a.tmps.getD 5 undef = .pointer (some ⟨w.heap.size + 2, 0, none⟩) := hf.at_ 5 (by kernel_rfl)
          clear he
          go_simp
          exact hK _ _ (Below.refl _ _) (getD_put_self a 29 _ (by show _ < a.tmps.size; omega))
        · obtain rfl := Option.some.inj ho
          have q29 : a.tmps.getD 29 undef = .pointer (some ⟨w.heap.size + 2, 1, none⟩) := he _ (Array.mem_of_getElem? (i := 0) rfl) (by kernel_rfl) _ rfl
          clear he
          obtain ⟨c0, c1, _⟩ := HB.out.2.2.2.under hR (by omega)
          go_simp
          exact hK _ _ (Below.refl _ _) (getD_put_self a 30 _ (by show _ < a.tmps.size; omega))
        · obtain rfl := Option.some.inj ho
          have q24 : a.tmps.getD 24 undef = .iface T v1 := he _ (Array.mem_of_getElem? (i := 0) rfl) (by kernel_rfl) _ rfl
          have q25 : a.tmps.getD 25 undef = .agg #[.int .i64 e.k, .int .i64 e.n, .int .i64 e.ak, .int .i64 e.at_, .slice ad e.kids.length cap] := he _ (Array.mem_of_getElem? (i := 1) rfl) (by kernel_rfl) _ rfl
          have q26 : a.tmps.getD 26 undef = .agg #[m0, m1, m2] := he _ (Array.mem_of_getElem? (i := 2) rfl) (by kernel_rfl) _ rfl
          have q28 : a.tmps.getD 28 undef = .int .i64 r0 := he _ (Array.mem_of_getElem? (i := 3) rfl) (by kernel_rfl) _ rfl
          have q30 : a.tmps.getD 30 undef = .int .i64 r1 := he _ (Array.mem_of_getElem? (i := 4) rfl) (by kernel_rfl) _ rfl
          clear he
          go_simp
          refine (hcon _).mono ?_
          rintro e1 u' ⟨rfl, hbu⟩
          exact hK _ _ hbu (getD_put_self a 31 _ (by show _ < a.tmps.size; omega))
        · obtain rfl := Option.some.inj ho
          have q31 : a.tmps.getD 31 undef = .int .i64 r := he _ (Array.mem_of_getElem? (i := 0) rfl) (by kernel_rfl) _ rfl
          clear he
          go_simp
          exact hK _ _ (Below.refl _ _) (getD_put_self a 4 _ (by show _ < a.tmps.size; omega))
        · exact absurd ho (by simp)
      · intro a u hf hR0 hp
        have hR : Grow wr u := (Below.drew (Below.refl _ _)).trans hR0
        have md : a.defers = [] := hf.defers
        have m4 : a.tmps.getD 4 undef = .int .i64 r := hp 10 _ rfl
        obtain ⟨f, ea, hfv⟩ := act_lit a 32 hf.size
        rw [← hfv] at m4
        rw [md] at ea
        simp only [List.range, List.range.loop, List.map_cons, List.map_nil, m4] at ea
        subst ea
        clear hfv hf md hp hR0
        go_wp2
        go_ret
        exact ⟨rfl, HB.out.1.trans (hR.mono (by omega))⟩

theorem numComes (w : World) (lo hi : Nat) (s m0 m1 m2 : Value) (e : ExprD) (h : KR w lo hi s e.kids) (hhi : hi ≤ w.heap.size) (hk : e.k = 1) (hl : e.kids.length = 0) :
    Calls Tryz.prog 76 #[.agg #[.int .i64 e.k, .int .i64 e.n, .int .i64 e.ak, .int .i64 e.at_, s], .agg #[m0, m1, m2]] w fun en w' => en = .returned (.int .i64 e.n) ∧ Below w.heap.size w w' := by
  have hv : numVal e = e.n := by unfold numVal; rw [if_pos hk]
  have h0 : ∀ x, x ∈ e.kids → False := fun x hx => by
    rw [List.eq_nil_of_length_eq_zero hl] at hx
    cases hx
  have hc := numComes_of w lo hi s m0 m1 m2 e h hhi (.inl ⟨hk, hl⟩) fun x hx => (h0 x hx).elim
  rw [hv] at hc
  exact hc

theorem numComes_any (w : World) (lo hi : Nat) (s m0 m1 m2 : Value) (e : ExprD) (h : KR w lo hi s e.kids) (hhi : hi ≤ w.heap.size) (hN : NumP e) (hk : ∀ x, x ∈ e.kids → x.k = 1 ∧ x.kids.length = 0) :
    Calls Tryz.prog 76 #[.agg #[.int .i64 e.k, .int .i64 e.n, .int .i64 e.ak, .int .i64 e.at_, s], .agg #[m0, m1, m2]] w fun en w' => en = .returned (.int .i64 (numVal e)) ∧ Below w.heap.size w w' :=
  numComes_of w lo hi s m0 m1 m2 e h hhi hN fun x hx W s h hh => numComes W lo hi s m0 m1 m2 x h hh (hk x hx).1 (hk x hx).2
end Go.Proofs.YtkeockippmmneaaGreat
