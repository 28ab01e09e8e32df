/-
  impl.CodeRun. (Written by our generator gen_maci.py.)
-/
import Derived.Test.YtdhpbiplkjpiiaaGreatDoorMacH
import Derived.Test.YtdhpbiplkjpiiaaGreatDoorRunIs
import Derived.Test.YtdhpbiplkjpiiaaGreatDoorDepImplD
import Derived.Test.YtdhpbiplkjpiiaaGreatDoorRowT
namespace Go.Proofs.YtdhpbiplkjpiiaaGreatDoor
open Go.ChangeShapes Go.WideShapes Go.ChangeAt Go.RowKit
set_option linter.unusedVariables false
set_option linter.unusedSimpArgs false
set_option maxRecDepth 100000

/-- What the program says when fuel is out. -/
def LongC (w : World) (ea : Go.Addr) : Prop := 0 < w.heap.size ∧ w.cell? ⟨0, 0, none⟩ = some (.iface 138 (.pointer (some ea)))

theorem LongC.below {w w' : World} {ea : Go.Addr} (h : LongC w ea) (hb : Below w.heap.size w w') : LongC w' ea :=
  ⟨Nat.lt_of_lt_of_le h.1 hb.size, by rw [World.cell?_of_block (w := w) (hb.block 0 (World.block_lt_of_cell? w _ h.2))]; exact h.2⟩
theorem LongC.out {w w' : World} {ea : Go.Addr} {B : Nat} (h : LongC w ea) (ho : Out B (B + 1) w w') (hB : 0 < B) : LongC w' ea :=
  ⟨Nat.lt_of_lt_of_le h.1 ho.size, by rw [World.cell?_of_block (w := w) (ho.block 0 (World.block_lt_of_cell? w _ h.2) (.inl hB))]; exact h.2⟩

theorem below_outC {w u u' : World} {B : Nat} (h : Below w.heap.size w u) (ho : Out B (B + 1) u u') (hB : w.heap.size ≤ B) : Below w.heap.size w u' :=
  ⟨ho.os.trans h.os, ho.tape.trans h.tape, ho.output.trans h.output, Nat.le_trans h.size ho.size, fun k hk => by rw [ho.block k (Nat.lt_of_lt_of_le hk h.size) (.inl (by omega))]; exact h.block k hk⟩

theorem is_errC (c : Int) (hc : c = 0 ∨ c = 1) (ea : Go.Addr) (w : World) :
    Calls Tryz.prog 25 #[if c = 0 then .nilIface else .iface 138 (.pointer (some ea)), .iface 138 (.pointer (some ea))] w fun e w' => e = .returned (.bool (c == 1)) ∧ w' = w := by
  rcases hc with rfl | rfl
  · exact (is_nil ea w).mono fun e w' h => ⟨by rw [h.1]; rfl, h.2⟩
  · exact (is_same ea w).mono fun e w' h => ⟨by rw [h.1]; rfl, h.2⟩

theorem MacS.kept_ {A : Nat} {w w' : World} {B : Nat} {d : MemD} {st : List Int} {f : Nat} {pc : Int} (h : MacS A w B d st f pc) (hb : Below w.heap.size w w') (hB : B < w.heap.size) : MacS A w' B d st f pc := by
  obtain ⟨x, y, z, lo, hi, hh, hm, hmo, h1, h2, h3, h4⟩ := h
  exact ⟨x, y, z, lo, hi, hh, hm.at_ (hb.block B hB), hmo.below hb h1, Nat.le_trans h1 hb.size, h2, h3, h4⟩
theorem NR.outN {w w' : World} {lo hi lo' hi' : Nat} {v : Value} {ps : List InsD} (h : NR w lo' hi' v ps) (ho : Out lo hi w w') (h1 : hi' ≤ w.heap.size) (h2 : hi' ≤ lo ∨ hi ≤ lo') : NR w' lo' hi' v ps :=
  h.kept fun k h3 h4 => ho.block k (by omega) (by omega)
theorem MO.wideC {w : World} {lo hi lo' hi' : Nat} {m : Value} {d : MemD} (h : MO w lo hi m d) (h1 : lo' ≤ lo) (h2 : hi ≤ hi') : MO w lo' hi' m d := by
  obtain ⟨a, b, c, rfl, x, y, z, r⟩ := h
  exact ⟨a, b, c, rfl, x.wide h1 h2, y.wide h1 h2, z.wide h1 h2, r⟩

/-- A machine that is made. -/
theorem mac_new (u : World) (x y z : Value) (n : Int) (ty : TypeId) :
    MacC (u.alloc (.cells #[x, y, z, .int .i64 n, .int .i64 0, .int .i64 0, .int .i64 0, .int .i64 0, .int .i64 0, .int .i64 0, .int .i64 0, .int .i64 0, .int .i64 0, .int .i64 0, .int .i64 0, .int .i64 0, .int .i64 0, .int .i64 0] ty)) u.heap.size x y z n (fun _ => 0) 0 0 := by
  refine ⟨World.cell?_alloc_new _ _ _ _, World.cell?_alloc_new _ _ _ _, World.cell?_alloc_new _ _ _ _, World.cell?_alloc_new _ _ _ _, fun j hj => ?_, World.cell?_alloc_new _ _ _ _, World.cell?_alloc_new _ _ _ _, fun o => World.frozen?_alloc_new _ _ _ _⟩
  rw [World.cell?_alloc_new]
  match j, hj with
  | 0, _ | 1, _ | 2, _ | 3, _ | 4, _ | 5, _ | 6, _ | 7, _ | 8, _ | 9, _ | 10, _ | 11, _ => rfl

set_option maxHeartbeats 8000000 in
theorem iCodeRun_any (w : World) (lo hi lo' hi' : Nat) (m v : Value) (d : MemD) (ps : List InsD) (f : Int) (ea : Go.Addr) (hm : MI w lo hi m d) (hhi : hi ≤ w.heap.size) (hps : NR w lo' hi' v ps) (hhi' : hi' ≤ w.heap.size) (hL : LongC w ea) :
    Calls Tryz.prog 9 #[m, v, .int .i64 f] w fun e w' => ∃ m', e = .returned (.tuple #[m', .int .i64 (codeRun d ps f).2.1, .int .i64 (codeRun d ps f).2.2]) ∧ MO w' w.heap.size w'.heap.size m' (codeRun d ps f).1 ∧ Below w.heap.size w w' := by
  obtain ⟨pa, la, ca, pb, lb, cb, pc, lc, cc, rfl⟩ := hm.aggs
  obtain ⟨ad, cap, rfl, _, _⟩ := hps.shape
  have HM : Hid (MI w lo hi (.agg #[.slice pa la ca, .slice pb lb cb, .slice pc lc cc]) d ∧ NR w lo' hi' (.slice ad ps.length cap) ps ∧ LongC w ea) := ⟨hm, hps, hL⟩
  have HR : Hid (codeRun d ps f = if memOk d && codeOk ps && decide (0 ≤ f) && decide (f ≤ 100) then ((runC ps ⟨0, d, [], f.toNat⟩).1, (runC ps ⟨0, d, [], f.toNat⟩).2.1, ((runC ps ⟨0, d, [], f.toNat⟩).2.2 : Int)) else (⟨[], [], []⟩, 2, 0)) := rfl
  obtain ⟨⟨dr, cr, fr⟩, hr⟩ : ∃ r, codeRun d ps f = r := ⟨_, rfl⟩
  rw [hr] at HR ⊢
  clear hm hps hr hL
  simp only
  go_enter Tryz.func9, Tryz.ntmps9
  go_wp2_with fail
  obtain ⟨u0, hu0, G0, V0, S0⟩ : ∃ u0, (w.alloc (.cells #[.slice pa la ca, .slice pb lb cb, .slice pc lc cc] 28)).alloc (.cells #[.slice none 0 0, .slice none 0 0, .slice none 0 0] 28) = u0 ∧ Below w.heap.size w u0 ∧ Three u0 (w.heap.size + 1) (.slice none 0 0) (.slice none 0 0) (.slice none 0 0) ∧ u0.heap.size = w.heap.size + 2 := by
    have b1 := (Below.refl w.heap.size w).alloc (Nat.le_refl _) (.cells #[.slice pa la ca, .slice pb lb cb, .slice pc lc cc] 28)
    obtain ⟨w1, e1⟩ : ∃ w1, w.alloc (.cells #[.slice pa la ca, .slice pb lb cb, .slice pc lc cc] 28) = w1 := ⟨_, rfl⟩
    have s1 : w1.heap.size = w.heap.size + 1 := by rw [← e1]; simp
    rw [e1] at b1 ⊢
    have b3 := (Below.refl w1.heap.size w1).alloc (Nat.le_refl _) (.cells #[.slice none 0 0, .slice none 0 0, .slice none 0 0] 28)
    have n3 := three_new w1 (.slice none 0 0) (.slice none 0 0) (.slice none 0 0) 28
    refine ⟨_, rfl, below_two b1 b3, ?_, by rw [World.size_alloc]; omega⟩
    rw [s1] at n3; exact n3
  rw [hu0]
  clear hu0
  refine (cellsOk_any _ lo hi _ d (HM.out.1.below G0 hhi) (by omega)).mono ?_
  rintro e1 u1 ⟨rfl, g1⟩
  have s1 := g1.size
  have G1 := G0.trans (g1.mono (by omega))
  have V1 := V0.at_ (g1.block _ (by omega))
  clear g1 G0 V0
  go_wp2_with (refine wpList_alloc18 rfl rfl ?_)
  intro u2 g2 z2 s2
  go_wp2_with (refine wpList_store18 rfl _ _ rfl rfl rfl (by assumption) ?_)
  intro u3 W3 B1 Z3
  have S3 := W3.size
  have G1 := (G1.trans (g2.mono (by omega))).trans (W3.below fun b o e => by omega)
  have V1 := (V1.at_ (g2.block _ (by omega))).at_ (W3.block _ fun o e => by omega)
  clear g2 z2 W3 Z3
  cases hmk : memOk d with
  | false =>
    have hrr := HR.out
    rw [hmk] at hrr
    simp only [Bool.and_false, Bool.false_and, Bool.false_eq_true, if_false, Prod.mk.injEq] at hrr
    obtain ⟨rfl, rfl, rfl⟩ := hrr
    obtain ⟨u5, hu5, T5, N5, S5, B5⟩ := three_store V1 (.slice none 0 0) (.slice none 0 0) (.slice none 0 0)
    have HU5 : Hid (_ = u5) := hu5
    have HB : Hid (Below w.heap.size w u5) := G1.trans (B5.mono (by omega))
    have HT5 : Hid (Three u5 (w.heap.size + 1) (.slice none 0 0) (.slice none 0 0) (.slice none 0 0)) := T5
    obtain ⟨q0, q1, q2, qf⟩ := id V1
    have qf0 := qf 0
    have qf1 := qf 1
    have qf2 := qf 2
    clear hu5 T5 N5 B5 qf V1 G1 B1
    go_wp2
    rw [HU5.out]
    obtain ⟨r0, r1, r2, _⟩ := HT5.out
    exact bodyPost_ret (v := .tuple #[.agg #[.slice none 0 0, .slice none 0 0, .slice none 0 0], .int .i64 2, .int .i64 0]) (by simp [results, Tryz.results9, go_sem, r0, r1, r2]) rfl ⟨_, rfl, mo_none _ _ _, HB.out⟩
  | true =>
    go_wp2_with fail
    refine (iCodeOk_any _ lo' hi' _ ps (HM.out.2.1.under G1 hhi') (by omega)).mono ?_
    rintro e2 u4 ⟨rfl, g4⟩
    have s4 := g4.size
    have G1 := G1.trans (g4.mono (by omega))
    have V1 := V1.at_ (g4.block _ (by omega))
    have B1 := B1.below g4 (by omega)
    clear g4
    cases hsk : codeOk ps with
    | false =>
      have hrr := HR.out
      rw [hmk, hsk] at hrr
      simp only [Bool.and_false, Bool.false_and, Bool.false_eq_true, if_false, Prod.mk.injEq] at hrr
      obtain ⟨rfl, rfl, rfl⟩ := hrr
      obtain ⟨u5, hu5, T5, N5, S5, B5⟩ := three_store V1 (.slice none 0 0) (.slice none 0 0) (.slice none 0 0)
      have HU5 : Hid (_ = u5) := hu5
      have HB : Hid (Below w.heap.size w u5) := G1.trans (B5.mono (by omega))
      have HT5 : Hid (Three u5 (w.heap.size + 1) (.slice none 0 0) (.slice none 0 0) (.slice none 0 0)) := T5
      obtain ⟨q0, q1, q2, qf⟩ := id V1
      have qf0 := qf 0
      have qf1 := qf 1
      have qf2 := qf 2
      clear hu5 T5 N5 B5 qf V1 G1 B1
      go_wp2
      rw [HU5.out]
      obtain ⟨r0, r1, r2, _⟩ := HT5.out
      exact bodyPost_ret (v := .tuple #[.agg #[.slice none 0 0, .slice none 0 0, .slice none 0 0], .int .i64 2, .int .i64 0]) (by simp [results, Tryz.results9, go_sem, r0, r1, r2]) rfl ⟨_, rfl, mo_none _ _ _, HB.out⟩
    | true =>
      by_cases hf0 : f < 0
      · have hrr := HR.out
        rw [hmk, hsk, decide_eq_false (show ¬ 0 ≤ f by omega)] at hrr
        simp only [Bool.and_false, Bool.false_and, Bool.false_eq_true, if_false, Prod.mk.injEq] at hrr
        obtain ⟨rfl, rfl, rfl⟩ := hrr
        obtain ⟨u5, hu5, T5, N5, S5, B5⟩ := three_store V1 (.slice none 0 0) (.slice none 0 0) (.slice none 0 0)
        have HU5 : Hid (_ = u5) := hu5
        have HB : Hid (Below w.heap.size w u5) := G1.trans (B5.mono (by omega))
        have HT5 : Hid (Three u5 (w.heap.size + 1) (.slice none 0 0) (.slice none 0 0) (.slice none 0 0)) := T5
        obtain ⟨q0, q1, q2, qf⟩ := id V1
        have qf0 := qf 0
        have qf1 := qf 1
        have qf2 := qf 2
        clear hu5 T5 N5 B5 qf V1 G1 B1
        go_wp2
        rw [HU5.out]
        obtain ⟨r0, r1, r2, _⟩ := HT5.out
        exact bodyPost_ret (v := .tuple #[.agg #[.slice none 0 0, .slice none 0 0, .slice none 0 0], .int .i64 2, .int .i64 0]) (by simp [results, Tryz.results9, go_sem, r0, r1, r2]) rfl ⟨_, rfl, mo_none _ _ _, HB.out⟩
      by_cases hf1 : 100 < f
      · have hrr := HR.out
        rw [hmk, hsk, decide_eq_false (show ¬ f ≤ 100 by omega)] at hrr
        simp only [Bool.and_false, Bool.false_and, Bool.false_eq_true, if_false, Prod.mk.injEq] at hrr
        obtain ⟨rfl, rfl, rfl⟩ := hrr
        obtain ⟨u5, hu5, T5, N5, S5, B5⟩ := three_store V1 (.slice none 0 0) (.slice none 0 0) (.slice none 0 0)
        have HU5 : Hid (_ = u5) := hu5
        have HB : Hid (Below w.heap.size w u5) := G1.trans (B5.mono (by omega))
        have HT5 : Hid (Three u5 (w.heap.size + 1) (.slice none 0 0) (.slice none 0 0) (.slice none 0 0)) := T5
        obtain ⟨q0, q1, q2, qf⟩ := id V1
        have qf0 := qf 0
        have qf1 := qf 1
        have qf2 := qf 2
        clear hu5 T5 N5 B5 qf V1 G1 B1
        go_wp2
        rw [HU5.out]
        obtain ⟨r0, r1, r2, _⟩ := HT5.out
        exact bodyPost_ret (v := .tuple #[.agg #[.slice none 0 0, .slice none 0 0, .slice none 0 0], .int .i64 2, .int .i64 0]) (by simp [results, Tryz.results9, go_sem, r0, r1, r2]) rfl ⟨_, rfl, mo_none _ _ _, HB.out⟩
      have e1 : okG d = cellF d := by unfold okG; rw [hmk]; rfl
      rw [e1] at B1
      obtain ⟨n, rfl⟩ : ∃ n : Nat, f = n := ⟨f.toNat, by omega⟩
      clear e1
      go_wp2_with (refine wpList_load18 rfl _ rfl rfl (by assumption) ?_)
      refine (cellsMem_any _ (cellF d)).mono ?_
      rintro e7 u7 ⟨m', rfl, hm', g7⟩
      have hs7 := g7.size
      have G7 := G1.trans (g7.mono (by omega))
      have V7 := V1.at_ (g7.block _ (by omega))
      obtain ⟨qa, qb, qc, rfl, j1, j2, j3⟩ := id hm'.mi
      obtain ⟨xa, xca, rfl⟩ := j1.shape
      obtain ⟨xb, xcb, rfl⟩ := j2.shape
      obtain ⟨xc, xcc, rfl⟩ := j3.shape
      obtain ⟨l1, l2, l3⟩ := fits_len (memOk_fits' hmk)
      have em := memOf_cellF l1 l2 l3
      rw [em] at hm' ⊢
      have hrr := HR.out
      rw [hmk, hsk, decide_eq_true (show (0 : Int) ≤ n by omega), decide_eq_true (show (n : Int) ≤ 100 by omega)] at hrr
      obtain ⟨⟨d1, c1, f1⟩, hrun⟩ : ∃ r, runC ps ⟨0, d, [], n⟩ = r := ⟨_, rfl⟩
      obtain ⟨D, hFl⟩ := codeOk_flow hsk
      have hsane := sane_start hFl hmk n
      have hend := runC_ok hFl hsane
      simp only [Bool.and_self, if_true, Int.toNat_natCast, hrun, Prod.mk.injEq] at hrr
      rw [hrun] at hend
      obtain ⟨rfl, rfl, rfl⟩ := hrr
      obtain ⟨hmk1, hfu, hcode⟩ := hend
      simp only at hmk1 hfu hcode
      obtain ⟨u8, hu8, g8, F8, S8⟩ : ∃ u8, u7.alloc (.cells #[.slice xa d.i.length xca, .slice xb d.o.length xcb, .slice xc d.v.length xcc, .int .i64 n, .int .i64 0, .int .i64 0, .int .i64 0, .int .i64 0, .int .i64 0, .int .i64 0, .int .i64 0, .int .i64 0, .int .i64 0, .int .i64 0, .int .i64 0, .int .i64 0, .int .i64 0, .int .i64 0] 64) = u8 ∧ Below u7.heap.size u7 u8 ∧ MacC u8 u7.heap.size (.slice xa d.i.length xca) (.slice xb d.o.length xcb) (.slice xc d.v.length xcc) n (fun _ => 0) 0 0 ∧ u8.heap.size = u7.heap.size + 1 :=
        ⟨_, rfl, (Below.refl _ _).alloc (Nat.le_refl _) _, mac_new _ _ _ _ _ _, by simp⟩
      have G8 : Below w.heap.size w u8 := G7.trans (g8.mono (by omega))
      have HU8 : Hid (_ = u8) := hu8
      have hG0 : 0 < w.heap.size := World.block_lt_of_cell? w _ HM.out.2.2.2
      have HX : Hid (MacS u4.heap.size u8 u7.heap.size d [] n 0 ∧ Three u8 (w.heap.size + 1) (.slice none 0 0) (.slice none 0 0) (.slice none 0 0) ∧ LongC u8 ea ∧ Below w.heap.size w u8) :=
        ⟨⟨_, _, _, _, _, _, F8, hm'.below g8 (Nat.le_refl _), by omega, by omega, by omega, fun j v h => by simp at h⟩, V7.at_ (g8.block _ (by omega)), HM.out.2.2.below G8, G8⟩
      have HG : Hid (hi' ≤ u7.heap.size ∧ 0 < u7.heap.size) := ⟨Nat.le_trans hhi' G7.size, by omega⟩
      have HFS : Hid (Flow ps D ∧ SaneC ps D ⟨0, d, [], n⟩ ∧ ∀ (i : Nat) (p : InsD), ps[i]? = some p → 1 ≤ p.op ∧ p.op ≤ 8) := ⟨hFl, hsane, fun i p hp => fit_op (hFl.fit _ _ hp)⟩
      have HM4 : Hid (ps.length ≤ 400) := hFl.many
      clear j1 j2 j3 hm' g7 G1 V1 V7 B1 em l1 l2 l3 hu8 g8 F8 G8 G7 HR hFl hsane
      go_wp2_with fail
      rw [HU8.out]
      obtain ⟨B, hB⟩ : ∃ B, u7.heap.size = B := ⟨_, rfl⟩
      rw [hB] at HX HG ⊢
      refine wp_region_dagJ (R := Out B (B + 1)) (Φ := fun i v u => match i with
          | 0 => v = .slice ad ps.length cap
          | 1 => ∃ S w0, v = .slice (some ⟨S, 0, none⟩) ps.length ps.length ∧ B < S ∧ Steps w0 S ps ps.length u
          | 2 => v = if cr = 0 then .nilIface else .iface 138 (.pointer (some ea))
          | 3 => v = .iface 138 (.pointer (some ea))
          | 4 => v = .bool (cr == 1)
          | _ => True)
        (J := fun L a u => (L.getD 2 true = false → MacS u4.heap.size u B d [] n 0) ∧ (L.getD 2 true = true → ∃ st pc, MacS u4.heap.size u B dr st f1 pc)) (by kernel_rfl) (by kernel_rfl) (by kernel_rfl) (out_refl _ _) (fun _ _ _ h k => h.trans k) ?_ ⟨fun _ => HX.out.1.kept_ (Below.drew (Below.refl _ _)) (by omega), fun h => by simp at h⟩ ?_ ?_
      · intro i v u u' hr
        match i with
        | 0 | 2 | 3 | 4 | _ + 5 => exact fun h => h
        | 1 => exact fun ⟨S, w0, h1, h2, h3⟩ => ⟨S, w0, h1, h2, h3.out hr h2⟩
      · intro i o ho L ac u hf hR0 hLs hLi hp he hJ K' hK
        have hR : Out B (B + 1) u8 u := (out_of_below (Below.drew (Below.refl _ _)) _ _).trans hR0
        have hsz' : ac.tmps.size = 52 := hf.size
        have hus := hR.size
        have hE := HX.out.2.2.1.out hR HG.out.2
        rcases i with _ | _ | _ | _ | _ | i
        · obtain rfl := Option.some.inj ho
          have q1 : ac.tmps.getD 1 undef = .slice ad ps.length cap := hf.at_ 1 (by kernel_rfl)
          have hKK := hK (.slice ad ps.length cap) u (out_refl _ _) (getD_put_self ac 38 _ (by show _ < ac.tmps.size; omega)) ⟨fun h => hJ.1 (by rw [getD_set_ne true (by decide)] at h; exact h), fun h => hJ.2 (by rw [getD_set_ne true (by decide)] at h; exact h)⟩
          have HKK : Hid _ := hKK
          clear hp he hJ hK hKK hE
          go_simp
          exact HKK.out
        · obtain rfl := Option.some.inj ho
          have q38 : ac.tmps.getD 38 undef = .slice ad ps.length cap := hp 0 _ rfl (he _ (Array.mem_of_getElem? (i := 0) rfl) (by kernel_rfl))
          have hst := stepsOf_any u lo' hi' _ ps ((HM.out.2.1.under HX.out.2.2.2 hhi').outN hR (by omega) (.inl HG.out.1)) (by omega) HM4.out HFS.out.2.2
          clear hp he hE
          go_simp
          refine hst.mono ?_
          rintro e9 u9 ⟨rfl, hs9, hb9⟩
          exact hK _ _ (out_of_below hb9 _ _) ⟨u.heap.size, u, getD_put_self ac 39 _ (by show _ < ac.tmps.size; omega), by omega, hs9⟩ ⟨fun h => (hJ.1 (by rw [getD_set_ne true (by decide)] at h; exact h)).kept_ hb9 (by omega), fun h => by obtain ⟨st, pc, hh⟩ := hJ.2 (by rw [getD_set_ne true (by decide)] at h; exact h); exact ⟨st, pc, hh.kept_ hb9 (by omega)⟩⟩
        · obtain rfl := Option.some.inj ho
          have q11 : ac.tmps.getD 11 undef = .pointer (some ⟨B, 0, none⟩) := hf.at_ 11 (by kernel_rfl)
          obtain ⟨S, w0, q39, hBS, hSt⟩ := hp 1 _ rfl (he _ (Array.mem_of_getElem? (i := 0) rfl) (by kernel_rfl))
          have q39 : ac.tmps.getD 39 undef = .slice (some ⟨S, 0, none⟩) ps.length ps.length := q39
          have hall := run_any u4.heap.size u w0 B S ps D ⟨0, d, [], n⟩ _ _ dr cr f1 HFS.out.1 HFS.out.2.1 (by show n ≤ 100; omega) hrun (hJ.1 hLi) hSt (by omega) (by omega) hBS hE.2 (by have := HG.out.2; omega)
          clear hp he hJ hE
          go_simp
          refine hall.mono ?_
          rintro e9 u9 ⟨rfl, hv9, ho9⟩
          exact hK _ _ ho9 (getD_put_self ac 40 _ (by show _ < ac.tmps.size; omega)) ⟨fun h => absurd h (by rw [getD_set_self' (by rw [hLs]; decide)]; decide), fun _ => hv9⟩
        · obtain rfl := Option.some.inj ho
          have c0 := hE.2
          have hKK := hK (.iface 138 (.pointer (some ea))) u (out_refl _ _) (getD_put_self ac 41 _ (by show _ < ac.tmps.size; omega)) ⟨fun h => hJ.1 (by rw [getD_set_ne true (by decide)] at h; exact h), fun h => hJ.2 (by rw [getD_set_ne true (by decide)] at h; exact h)⟩
          have HKK : Hid _ := hKK
          clear hp he hJ hK hKK hE
          go_simp
          exact HKK.out
        · obtain rfl := Option.some.inj ho
          have q40 : ac.tmps.getD 40 undef = if cr = 0 then .nilIface else .iface 138 (.pointer (some ea)) := hp 2 _ rfl (he _ (Array.mem_of_getElem? (i := 0) rfl) (by kernel_rfl))
          have q41 : ac.tmps.getD 41 undef = .iface 138 (.pointer (some ea)) := hp 3 _ rfl (he _ (Array.mem_of_getElem? (i := 1) rfl) (by kernel_rfl))
          have hKK := hK (.bool (cr == 1)) u (out_refl _ _) (getD_put_self ac 42 _ (by show _ < ac.tmps.size; omega)) ⟨fun h => hJ.1 (by rw [getD_set_ne true (by decide)] at h; exact h), fun h => hJ.2 (by rw [getD_set_ne true (by decide)] at h; exact h)⟩
          have HKK : Hid _ := hKK
          have his := is_errC cr (hcode.imp id fun h => h.1) ea u
          obtain ⟨er, her⟩ : ∃ er : Value, (if cr = 0 then Value.nilIface else .iface 138 (.pointer (some ea))) = er := ⟨_, rfl⟩
          rw [her] at q40 his
          clear hp he hJ hK hKK hE her
          go_simp
          refine his.mono ?_
          rintro e9 u9 ⟨rfl, rfl⟩
          exact HKK.out
        · exact absurd ho (by simp)
      · intro L ac u hf hR0 hp hJ
        have hR : Out B (B + 1) u8 u := (out_of_below (Below.drew (Below.refl _ _)) _ _).trans hR0
        have m42 : ac.tmps.getD 42 undef = .bool (cr == 1) := (hp 4 _ rfl).2
        obtain ⟨st, pcc, ma, mb, mc, lo2, hi2, hd2, h4, hmo, hh2, hap1, hap2, _⟩ := hJ.2 (hp 2 _ rfl).1
        obtain ⟨za, ya, xa2, zb, yb, xb2, zc, yc, xc2, hagg⟩ := hmo.mi.aggs
        simp only [Value.agg.injEq, Array.mk.injEq, List.cons.injEq, and_true] at hagg
        obtain ⟨rfl, rfl, rfl⟩ := hagg
        have hus := hR.size
        have hT := HX.out.2.1.at_ (hR.block (w.heap.size + 1) (by omega) (.inl (by omega)))
        obtain ⟨u9, hu9, T9, N9, S9, B9⟩ := three_store hT (.slice za ya xa2) (.slice zb yb xb2) (.slice zc yc xc2)
        have HU9 : Hid (_ = u9) := hu9
        have HF : Hid (MO u9 w.heap.size u9.heap.size (.agg #[.slice za ya xa2, .slice zb yb xb2, .slice zc yc xc2]) dr ∧ Below w.heap.size w u9 ∧ Three u9 (w.heap.size + 1) (.slice za ya xa2) (.slice zb yb xb2) (.slice zc yc xc2)) :=
          ⟨(hmo.kept fun k h1 h2 => N9 k (by omega)).wideC (by omega) (by omega), (below_outC HX.out.2.2.2 hR (by omega)).trans (B9.mono (by omega)), T9⟩
        obtain ⟨q0, q1, q2, qf⟩ := id hT
        have qf0 := qf 0
        have qf1 := qf 1
        have qf2 := qf 2
        obtain ⟨k0, k1, k2, k3, _, _, _, _⟩ := id h4
        clear hp hJ hR0 hmo hT hu9 T9 N9 B9 qf h4 HX HM HG HFS HM4
        obtain ⟨fq, ea, hfv⟩ := act_lit ac 52 hf.size
        have md : ac.defers = [] := hf.defers
        rw [md] at ea
        have m0 := hf.at_ 0 (by kernel_rfl)
        have m1 := hf.at_ 1 (by kernel_rfl)
        have m2 := hf.at_ 2 (by kernel_rfl)
        have m3 := hf.at_ 3 (by kernel_rfl)
        have m4 := hf.at_ 4 (by kernel_rfl)
        have m5 := hf.at_ 5 (by kernel_rfl)
        have m6 := hf.at_ 6 (by kernel_rfl)
        have m7 := hf.at_ 7 (by kernel_rfl)
        have m8 := hf.at_ 8 (by kernel_rfl)
        have m9 := hf.at_ 9 (by kernel_rfl)
        have m10 := hf.at_ 10 (by kernel_rfl)
        have m11 := hf.at_ 11 (by kernel_rfl)
        have m12 := hf.at_ 12 (by kernel_rfl)
        have m13 := hf.at_ 13 (by kernel_rfl)
        have m14 := hf.at_ 14 (by kernel_rfl)
        have m15 := hf.at_ 15 (by kernel_rfl)
        have m16 := hf.at_ 16 (by kernel_rfl)
        have m17 := hf.at_ 17 (by kernel_rfl)
        have m18 := hf.at_ 18 (by kernel_rfl)
        have m19 := hf.at_ 19 (by kernel_rfl)
        have m20 := hf.at_ 20 (by kernel_rfl)
        have m21 := hf.at_ 21 (by kernel_rfl)
        have m22 := hf.at_ 22 (by kernel_rfl)
        have m23 := hf.at_ 23 (by kernel_rfl)
        have m24 := hf.at_ 24 (by kernel_rfl)
        have m25 := hf.at_ 25 (by kernel_rfl)
        have m26 := hf.at_ 26 (by kernel_rfl)
        have m27 := hf.at_ 27 (by kernel_rfl)
        have m28 := hf.at_ 28 (by kernel_rfl)
        have m29 := hf.at_ 29 (by kernel_rfl)
        have m30 := hf.at_ 30 (by kernel_rfl)
        have m31 := hf.at_ 31 (by kernel_rfl)
        have m32 := hf.at_ 32 (by kernel_rfl)
        have m33 := hf.at_ 33 (by kernel_rfl)
        have m34 := hf.at_ 34 (by kernel_rfl)
        have m35 := hf.at_ 35 (by kernel_rfl)
        have m36 := hf.at_ 36 (by kernel_rfl)
        have m37 := hf.at_ 37 (by kernel_rfl)
        have m43 := hf.at_ 43 (by kernel_rfl)
        have m44 := hf.at_ 44 (by kernel_rfl)
        have m45 := hf.at_ 45 (by kernel_rfl)
        have m46 := hf.at_ 46 (by kernel_rfl)
        have m47 := hf.at_ 47 (by kernel_rfl)
        have m48 := hf.at_ 48 (by kernel_rfl)
        have m49 := hf.at_ 49 (by kernel_rfl)
        have m50 := hf.at_ 50 (by kernel_rfl)
        have m51 := hf.at_ 51 (by kernel_rfl)
        rw [← hfv] at m0 m1 m2 m3 m4 m5 m6 m7 m8 m9 m10 m11 m12 m13 m14 m15 m16 m17 m18 m19 m20 m21 m22 m23 m24 m25 m26 m27 m28 m29 m30 m31 m32 m33 m34 m35 m36 m37 m43 m44 m45 m46 m47 m48 m49 m50 m51 m42
        simp only [Array.getD_eq_getD_getElem?, List.getElem?_toArray, List.getElem?_cons_succ, List.getElem?_cons_zero, Option.getD_some] at m0 m1 m2 m3 m4 m5 m6 m7 m8 m9 m10 m11 m12 m13 m14 m15 m16 m17 m18 m19 m20 m21 m22 m23 m24 m25 m26 m27 m28 m29 m30 m31 m32 m33 m34 m35 m36 m37 m43 m44 m45 m46 m47 m48 m49 m50 m51
        simp only [List.range, List.range.loop, List.map_cons, List.map_nil, m0, m1, m2, m3, m4, m5, m6, m7, m8, m9, m10, m11, m12, m13, m14, m15, m16, m17, m18, m19, m20, m21, m22, m23, m24, m25, m26, m27, m28, m29, m30, m31, m32, m33, m34, m35, m36, m37, m43, m44, m45, m46, m47, m48, m49, m50, m51, m42] at ea
        subst ea
        clear m0 m1 m2 m3 m4 m5 m6 m7 m8 m9 m10 m11 m12 m13 m14 m15 m16 m17 m18 m19 m20 m21 m22 m23 m24 m25 m26 m27 m28 m29 m30 m31 m32 m33 m34 m35 m36 m37 m43 m44 m45 m46 m47 m48 m49 m50 m51 m42 hfv md hf
        rcases hcode with rfl | ⟨rfl, rfl⟩
        · have hBn : B ≠ w.heap.size + 1 := by omega
          go_wp2
          go_region
          rw [HU9.out]
          have HD : Hid (MO u9.drew w.heap.size u9.drew.heap.size (.agg #[.slice za ya xa2, .slice zb yb xb2, .slice zc yc xc2]) dr ∧ Below w.heap.size w u9.drew ∧ Three u9.drew (w.heap.size + 1) (.slice za ya xa2) (.slice zb yb xb2) (.slice zc yc xc2)) :=
            ⟨HF.out.1.kept fun k h1 h2 => rfl, HF.out.2.1.trans (Below.drew (Below.refl _ _)), HF.out.2.2.at_ rfl⟩
          obtain ⟨v9, hv9⟩ : ∃ v9, u9.drew = v9 := ⟨_, rfl⟩
          rw [hv9] at HD ⊢
          go_wp2
          obtain ⟨p1, p2, r0, r1, r2, _⟩ := HD.out
          exact bodyPost_ret (v := .tuple #[.agg #[.slice za ya xa2, .slice zb yb xb2, .slice zc yc xc2], .int .i64 0, .int .i64 f1]) (by simp [results, Tryz.results9, go_sem, r0, r1, r2]) rfl ⟨_, rfl, p1, p2⟩
        · go_wp2
          rw [HU9.out]
          obtain ⟨p1, p2, r0, r1, r2, _⟩ := HF.out
          exact bodyPost_ret (v := .tuple #[.agg #[.slice za ya xa2, .slice zb yb xb2, .slice zc yc xc2], .int .i64 1, .int .i64 0]) (by simp [results, Tryz.results9, go_sem, r0, r1, r2]) rfl ⟨_, rfl, p1, p2⟩
end Go.Proofs.YtdhpbiplkjpiiaaGreatDoor
