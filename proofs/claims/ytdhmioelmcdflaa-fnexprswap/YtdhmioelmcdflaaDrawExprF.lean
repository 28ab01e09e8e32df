/-
  Draws: DrawExprOf.
-/
import Derived.Test.YtdhmioelmcdflaaDrawExprE
import Derived.Test.YtdhmioelmcdflaaDrawMemB
namespace Go.Proofs.Ytdhmioelmcdflaa
open Go.ChangeShapes Go.WideShapes Go.ChangeAt Go.RowKit
set_option linter.unusedVariables false
set_option maxRecDepth 100000

theorem KidJ.app0 {c p : Nat} {sl : Tmp} {Q1 Q2 K1 : World → Prop} {K2 : Value → World → Prop} {L : Array Bool} {a : Act} {u u' : World} (h : KidJ c p sl Q1 Q2 K1 K2 L a u) {v : Value} (hp : p < L.size) (hc : p ≠ c)
    (s1 : Q1 u → Q1 u') (s2 : Q2 u → Q2 u') (s4 : K2 (a.tmps.getD sl undef) u') : KidJ c p sl Q1 Q2 K1 K2 (L.setIfInBounds p true) (a.put none v) u' := by
  obtain ⟨h1, h2, h3, h4⟩ := h
  refine ⟨fun e => s1 (h1 ?_), fun e => s2 (h2 ?_), fun e => ?_, fun e => s4⟩
  · rwa [getD_set_ne true hc] at e
  · rwa [getD_set_ne true hc] at e
  · rw [getD_set_self' hp] at e; cases e

theorem RdQ.rowR {n0 B : Nat} {a : Option Addr} {len cap : Nat} {q : Int} {u u' : World} (h : RdQ n0 B a len cap q u) (hs : u.heap.size ≤ u'.heap.size) (hk : ∀ k, k ≤ B → k < n0 ∨ k = B → u'.heap[k]? = u.heap[k]?) : RdQ n0 B a len cap q u' := by
  obtain ⟨p, hp, lo, hi, c0, c1, f1, by8, sh, p0, p1⟩ := h
  have hB := hk B (Nat.le_refl _) (.inr rfl)
  refine ⟨p, hp, lo, by omega, by rw [World.cell?_of_block (w := u) hB]; exact c0, by rw [World.cell?_of_block (w := u) hB]; exact c1, by rw [World.frozen?_of_block (w := u) hB]; exact f1, ?_, sh, p0, p1⟩
  rcases by8 with h0 | ⟨b, off, ha, hb', hc⟩
  · exact .inl h0
  · refine .inr ⟨b, off, ha, hb', fun i hi => ?_⟩
    rw [World.cell?_of_block (w := u) (hk b (by omega) (.inl hb'))]
    exact hc i hi

theorem ER.rng {w : World} {lo hi lo' hi' : Nat} {v : Value} {e : ExprD} (h : ER w lo hi v e) (h1 : lo' ≤ lo) (h2 : hi ≤ hi') : ER w lo' hi' v e := by
  obtain ⟨s, hv, hk⟩ := h; exact ⟨s, hv, hk.wide h1 h2⟩
theorem ER.keptB {w w' : World} {lo hi : Nat} {v : Value} {e : ExprD} (h : ER w lo hi v e) (hk : ∀ k, lo ≤ k → k < hi → w'.heap[k]? = w.heap[k]?) : ER w' lo hi v e := by
  obtain ⟨s, hv, h⟩ := h; exact ⟨s, hv, h.kept hk⟩
theorem MI.rng {w : World} {lo hi lo' hi' : Nat} {v : Value} {e : MemD} (h : MI w lo hi v e) (h1 : lo' ≤ lo) (h2 : hi ≤ hi') : MI w lo' hi' v e := by
  obtain ⟨a, b, c, hv, ha, hb, hc⟩ := h; exact ⟨a, b, c, hv, ha.wide h1 h2, hb.wide h1 h2, hc.wide h1 h2⟩

theorem MI.shapeS {w : World} {lo hi : Nat} {m : Value} {d : MemD} (h : MI w lo hi m d) : ∃ pa ca pb cb pc cc, m = .agg #[.slice pa d.i.length ca, .slice pb d.o.length cb, .slice pc d.v.length cc] := by
  obtain ⟨a, b, c, rfl, h1, h2, h3⟩ := h
  obtain ⟨pa, ca, rfl⟩ := h1.shape
  obtain ⟨pb, cb, rfl⟩ := h2.shape
  obtain ⟨pc, cc, rfl⟩ := h3.shape
  exact ⟨_, _, _, _, _, _, rfl⟩

set_option maxHeartbeats 8000000 in
theorem drawExprOf_any (w : World) (a : Option Addr) (len cap : Nat) (hb : Bytes8 w w.heap.size a len) (hlc : len ≤ cap) (hm : cap ≤ maxLen) :
    Calls Try.prog 10 #[.slice a len cap] w fun en w' => ∃ v e m d, en = .returned (.tuple #[v, m]) ∧ ER w' w.heap.size w'.heap.size v e ∧ manyE e ≤ 3000 ∧ MI w' w.heap.size w'.heap.size m d ∧ d.many ≤ 21 ∧ Below w.heap.size w w' := by
  obtain ⟨u0, hu0, G0, P0, T0, S0⟩ : ∃ u0, (w.alloc (.cells #[.int .i64 0, .int .i64 0, .int .i64 0, .int .i64 0, .slice none 0 0] 27)).alloc (.cells #[.slice none 0 0, .slice none 0 0, .slice none 0 0] 30) = u0 ∧ Below w.heap.size w u0 ∧ Five u0 w.heap.size (.int .i64 0) (.int .i64 0) (.int .i64 0) (.int .i64 0) (.slice none 0 0) ∧ Three u0 (w.heap.size + 1) (.slice none 0 0) (.slice none 0 0) (.slice none 0 0) ∧ u0.heap.size = w.heap.size + 2 := by
    have g1 := (Below.refl w.heap.size w).alloc (Nat.le_refl _) (.cells #[.int .i64 0, .int .i64 0, .int .i64 0, .int .i64 0, .slice none 0 0] 27)
    have n1 := five_new w (.int .i64 0) (.int .i64 0) (.int .i64 0) (.int .i64 0) (.slice none 0 0) 27
    obtain ⟨w1, hw1⟩ : ∃ w1, w.alloc (.cells #[.int .i64 0, .int .i64 0, .int .i64 0, .int .i64 0, .slice none 0 0] 27) = w1 := ⟨_, rfl⟩
    have s1 : w1.heap.size = w.heap.size + 1 := by rw [← hw1]; simp
    rw [hw1] at g1 n1 ⊢
    have g2 := (Below.refl w1.heap.size w1).alloc (Nat.le_refl _) (.cells #[.slice none 0 0, .slice none 0 0, .slice none 0 0] 30)
    have n2 := three_new w1 (.slice none 0 0) (.slice none 0 0) (.slice none 0 0) 30
    rw [s1] at n2
    exact ⟨_, rfl, g1.trans (g2.mono (by omega)), n1.under g2 (by omega), n2, by rw [World.size_alloc]; omega⟩
  have hb0 : Bytes8 u0 w.heap.size a len := by
    rcases hb with h0 | ⟨b, off, ha, hb', hc⟩
    · exact .inl h0
    · exact .inr ⟨b, off, ha, hb', fun i hi => by rw [G0.cell (p := ⟨b, off + i, none⟩) hb']; exact hc i hi⟩
  go_enter Try.func10, Try.ntmps10
  go_wp2_with fail
  clear hu0
  refine (open_low w.heap.size u0 a len cap (by omega) hb0 hlc hm).mono ?_
  rintro e1 u1 ⟨len', rfl, hr1, g1⟩
  have S1 := g1.size
  have R1 : RdQ w.heap.size u0.heap.size a len' cap 0 u1 := ⟨0, by omega, hr1⟩
  have hB1 := R1.hi
  have P1 := P0.under g1 (by omega)
  have T1 := T0.at_ (g1.block _ (by omega))
  have G1 := G0.trans (g1.mono (by omega))
  rw [S0] at R1 hB1
  clear hr1 g1 P0 T0 G0 hb0
  go_wp2_with fail
  generalize hBe : w.heap.size + 2 = B at *
  refine (l3Bent_any w.heap.size u1 B a len' cap 0 R1 (by omega)).mono ?_
  rintro e1 u2 ⟨v, e, rfl, ⟨s, rfl, hkr⟩, hme, R2, A2⟩
  obtain ⟨ads, cps, rfl, _, _⟩ := hkr.shape
  have S2 := A2.size
  obtain ⟨V, hV⟩ : ∃ V, u2.heap.size = V := ⟨_, rfl⟩
  obtain ⟨u3, hu3, R3, A3, V3, K3, S3⟩ : ∃ u3, u2.alloc (.cells #[.int .i64 e.k, .int .i64 e.n, .int .i64 e.ak, .int .i64 e.at_, .slice ads e.kids.length cps] 27) = u3 ∧ RdQ w.heap.size B a len' cap (0 + 300) u3 ∧ Aside B u1 u3 ∧ Five u3 V (.int .i64 e.k) (.int .i64 e.n) (.int .i64 e.ak) (.int .i64 e.at_) (.slice ads e.kids.length cps) ∧ KR u3 (B + 1) V (.slice ads e.kids.length cps) e.kids ∧ u3.heap.size = V + 1 := by
    have g3 := (Below.refl u2.heap.size u2).alloc (Nat.le_refl _) (.cells #[.int .i64 e.k, .int .i64 e.n, .int .i64 e.ak, .int .i64 e.at_, .slice ads e.kids.length cps] 27)
    have n3 := five_new u2 (.int .i64 e.k) (.int .i64 e.n) (.int .i64 e.ak) (.int .i64 e.at_) (.slice ads e.kids.length cps) 27
    rw [hV] at n3
    exact ⟨_, rfl, R2.kept g3, A2.trans (aside_of g3), n3, (hkr.under g3 (Nat.le_refl _)).wide (by omega) (by omega), by rw [World.size_alloc]; omega⟩
  have P3 := P1.aside A3 (by omega) (by omega)
  have T3 := T1.at_ (A3.at_ (by omega) (by omega))
  have hV1 : B < V := by omega
  clear R1 R2 A2 hkr P1 T1
  go_wp2_with fail
  clear hu3 hV
  have HK3 : Hid (KR u3 (B + 1) V (.slice ads e.kids.length cps) e.kids) := K3
  clear K3
  have G3 : Below w.heap.size w u3 := G1.trans (A3.old (by omega) (by omega))
  have HG3 : Hid (Below w.heap.size w u3) := G3
  clear G1 G3 A3
  refine wp_region_last (R := RowR B (some w.heap.size)) (Φ := fun i v u => match i with
      | 0 => v = .agg #[.int .i64 e.k, .int .i64 e.n, .int .i64 e.ak, .int .i64 e.at_, .slice ads e.kids.length cps]
      | 1 => v = .pointer (some ⟨B, 0, none⟩)
      | 2 => ∃ d, MI u (V + 1) u.heap.size v d ∧ d.many ≤ 21
      | _ => True)
    (J := KidJ 2 3 0 (RdQ w.heap.size B a len' cap (0 + 300)) (RdQ w.heap.size B a len' cap (0 + 300 + 30)) (fun u => Five u w.heap.size (.int .i64 0) (.int .i64 0) (.int .i64 0) (.int .i64 0) (.slice none 0 0)) (fun _ u => Five u w.heap.size (.int .i64 e.k) (.int .i64 e.n) (.int .i64 e.ak) (.int .i64 e.at_) (.slice ads e.kids.length cps)))
    4 _ rfl rfl (by kernel_rfl) (by kernel_rfl) (by kernel_rfl) (by kernel_rfl) (RowR.refl _ _ _) (fun _ _ _ h k => h.trans k) ?_ ?_ ?_ ?_
  · intro i v u u' hr
    have hs := hr.size
    match i with
    | 0 | 1 | _ + 3 => exact fun h => h
    | 2 =>
      rintro ⟨d, h1, h2⟩
      refine ⟨d, (h1.kept fun k h3 h4 => hr.block k h4 (by omega) fun e => ?_).rng (Nat.le_refl _) hs, h2⟩
      simp only [Option.some.injEq] at e
      omega
  · have g0 : Below u3.heap.size u3 u3.drew := Below.drew (Below.refl _ _)
    exact ⟨fun _ => R3.kept g0, fun h => by simp at h, fun _ => P3.under g0 (by omega), fun h => by simp at h⟩
  · intro i o ho hin L ac u hf hR0 hLs hLi hp he hJ K' hK
    have hR : RowR B (some w.heap.size) u3 u := (RowR.of_below (Below.drew (Below.refl _ _))).trans hR0
    have hsz' : ac.tmps.size = 13 := hf.size
    have hus := hR.size
    rcases i with _ | _ | _ | _ | i
    · obtain rfl := Option.some.inj ho
      have q5 : ac.tmps.getD 5 undef = .pointer (some ⟨V, 0, none⟩) := hf.at_ 5 (by kernel_rfl)
      obtain ⟨c0, c1, c2, c3, c4, _⟩ := hR.five V3 (by omega) (by omega) (by simp; omega)
      clear hp he
      go_simp
      exact hK _ _ (RowR.refl _ _ _) (getD_put_self ac 10 _ (by show _ < ac.tmps.size; omega)) (hJ.other (by decide) (by decide) (by decide) id id id fun _ h => h)
    · obtain rfl := Option.some.inj ho
      have q4 : ac.tmps.getD 4 undef = .pointer (some ⟨B, 0, none⟩) := hf.at_ 4 (by kernel_rfl)
      clear hp he
      go_simp
      exact hK _ _ (RowR.refl _ _ _) (getD_put_self ac 11 _ (by show _ < ac.tmps.size; omega)) (hJ.other (by decide) (by decide) (by decide) id id id fun _ h => h)
    · obtain rfl := Option.some.inj ho
      have q11 : ac.tmps.getD 11 undef = .pointer (some ⟨B, 0, none⟩) := hp 1 _ rfl (he _ (Array.mem_of_getElem? (i := 0) rfl) (by kernel_rfl))
      have hrd := hJ.1 hLi
      clear hp he
      go_simp
      refine (l2MemBent_any w.heap.size u B a len' cap _ hrd (by omega)).mono ?_
      rintro e1 u' ⟨m, d, rfl, hmi, hd, hrd', hA⟩
      have hs' := hA.size
      exact hK _ _ (RowR.of_aside hA) ⟨d, by show MI _ _ _ ((ac.put (some 12) m).tmps.getD 12 undef) d; rw [getD_put_self ac 12 _ (by show _ < ac.tmps.size; omega)]; exact hmi.rng (by omega) (Nat.le_refl _), hd⟩ (hJ.call (by show 2 < L.size; rw [hLs]; decide) (by decide) (by decide) hrd' (fun h => h.aside hA (by omega) (by omega)) fun _ h => h.aside hA (by omega) (by omega))
    · obtain rfl := Option.some.inj ho
      have q2 : ac.tmps.getD 2 undef = .pointer (some ⟨w.heap.size, 0, none⟩) := hf.at_ 2 (by kernel_rfl)
      have q10 : ac.tmps.getD 10 undef = .agg #[.int .i64 e.k, .int .i64 e.n, .int .i64 e.ak, .int .i64 e.at_, .slice ads e.kids.length cps] := hp 0 _ rfl (he _ (Array.mem_of_getElem? (i := 0) rfl) (by kernel_rfl))
      have h5 := hJ.2.2.1 hLi
      obtain ⟨u9, hu9, F9, N9, S9, B9⟩ := five_store h5 (.int .i64 e.k) (.int .i64 e.n) (.int .i64 e.ak) (.int .i64 e.at_) (.slice ads e.kids.length cps)
      have HU : Hid (_ = u9) := hu9
      obtain ⟨c0, c1, c2, c3, c4, cf⟩ := h5
      have f0 := cf 0
      have f1 := cf 1
      have f2 := cf 2
      have f3 := cf 3
      have f4 := cf 4
      have b9 := B9 0 u (Nat.zero_le _) (Below.refl _ _)
      have hk9 : ∀ k, k ≤ B → k < B ∨ k = B → k ≠ w.heap.size → u9.heap[k]? = u.heap[k]? := fun k _ _ h => N9 k h
      clear hp he cf hu9 B9
      go_simp
      rw [HU.out]
      refine hK undef _ ⟨b9.os, b9.tape, b9.output, by omega, fun k h1 h2 h3 => N9 k fun e => h3 (by rw [e])⟩ trivial (hJ.app0 (v := undef) (by show 3 < L.size; rw [hLs]; decide) (by decide) ?_ ?_ F9)
      · exact fun h => h.rowR (by omega) fun k h1 h2 => N9 k (by omega)
      · exact fun h => h.rowR (by omega) fun k h1 h2 => N9 k (by omega)
    · omega
  · intro L ac u hf hR0 hp hJ K' hK
    have hR : RowR B (some w.heap.size) u3 u := (RowR.of_below (Below.drew (Below.refl _ _))).trans hR0
    have hus := hR.size
    obtain ⟨d, hmi, hd⟩ := (hp 2 _ (by decide) rfl).2
    have hF := hJ.2.2.2 (hp 3 _ (by decide) rfl).1
    have hmi : MI u (V + 1) u.heap.size (ac.tmps.getD 12 undef) d := hmi
    obtain ⟨ma, mb, mc, hmv, k1, k2, k3⟩ := hmi
    have hT := T3.at_ (hR.block (w.heap.size + 1) (by omega) (by omega) (by simp))
    obtain ⟨pa, ca, rfl⟩ := k1.shape
    obtain ⟨pb, cb, rfl⟩ := k2.shape
    obtain ⟨pc, cc, rfl⟩ := k3.shape
    obtain ⟨u9, hu9, T9, N9, S9, B9⟩ := three_store hT (.slice pa d.i.length ca) (.slice pb d.o.length cb) (.slice pc d.v.length cc)
    have HU : Hid (_ = u9) := hu9
    have HT : Hid (Three u9 (w.heap.size + 1) _ _ _) := T9
    have HF : Hid (Five u9 w.heap.size (.int .i64 e.k) (.int .i64 e.n) (.int .i64 e.ak) (.int .i64 e.at_) (.slice ads e.kids.length cps)) := by
      have hk := N9 w.heap.size (by omega)
      exact ⟨by rw [World.cell?_of_block (w := u) hk]; exact hF.c0, by rw [World.cell?_of_block (w := u) hk]; exact hF.c1, by rw [World.cell?_of_block (w := u) hk]; exact hF.c2, by rw [World.cell?_of_block (w := u) hk]; exact hF.c3, by rw [World.cell?_of_block (w := u) hk]; exact hF.c4, fun o => by rw [World.frozen?_of_block (w := u) hk]; exact hF.f o⟩
    have HM : Hid (MI u9 w.heap.size u9.heap.size (.agg #[.slice pa d.i.length ca, .slice pb d.o.length cb, .slice pc d.v.length cc]) d) := by
      have hmi : MI u (V + 1) u.heap.size (.agg #[.slice pa d.i.length ca, .slice pb d.o.length cb, .slice pc d.v.length cc]) d := ⟨_, _, _, rfl, k1, k2, k3⟩
      exact (hmi.kept fun k h1 h2 => N9 k (by omega)).rng (by omega) (by omega)
    have HE : Hid (KR u9 w.heap.size u9.heap.size (.slice ads e.kids.length cps) e.kids) := (HK3.out.kept fun k h1 h2 => by rw [N9 k (by omega), hR.block k (by omega) (by omega) (by simp; omega)]).wide (by omega) (by omega)
    have HB : Hid (Below w.heap.size w u9) := by
      refine (Below.trans ?_ (B9.mono (by omega)))
      refine ⟨hR.os.trans HG3.out.os, hR.tape.trans HG3.out.tape, hR.output.trans HG3.out.output, Nat.le_trans HG3.out.size hR.size, fun k hk => ?_⟩
      rw [hR.block k (by omega) (by omega) (by simp; omega)]; exact HG3.out.block k hk
    have m12 : ac.tmps.getD 12 undef = .agg #[.slice pa d.i.length ca, .slice pb d.o.length cb, .slice pc d.v.length cc] := hmv
    obtain ⟨c0, c1, c2, ff⟩ := hT
    have f0 := ff 0
    have f1 := ff 1
    have f2 := ff 2
    clear ff hu9 T9 B9 N9 hmv hp hJ hR0 hR hF k1 k2 k3 HK3 HG3 P3 T3 V3 R3
    obtain ⟨f, ea, hfv⟩ := act_lit ac 13 hf.size
    have md : ac.defers = [] := hf.defers
    rw [md] at ea
    have m0 := hf.at_ 0 (by kernel_rfl)
    have m1 := hf.at_ 1 (by kernel_rfl)
    have m2 := hf.at_ 2 (by kernel_rfl)
    have m3 := hf.at_ 3 (by kernel_rfl)
    have m4 := hf.at_ 4 (by kernel_rfl)
    have m5 := hf.at_ 5 (by kernel_rfl)
    have m6 := hf.at_ 6 (by kernel_rfl)
    have m7 := hf.at_ 7 (by kernel_rfl)
    have m8 := hf.at_ 8 (by kernel_rfl)
    have m9 := hf.at_ 9 (by kernel_rfl)
    rw [← hfv] at m0 m1 m2 m3 m4 m5 m6 m7 m8 m9 m12
    simp only [Array.getD_eq_getD_getElem?, List.getElem?_toArray, List.getElem?_cons_succ, List.getElem?_cons_zero, Option.getD_some] at m0 m1 m2 m3 m4 m5 m6 m7 m8 m9
    simp only [List.range, List.range.loop, List.map_cons, List.map_nil, m0, m1, m2, m3, m4, m5, m6, m7, m8, m9, m12] at ea
    subst ea
    clear m0 m1 m2 m3 m4 m5 m6 m7 m8 m9 m12 hfv md hf
    go_simp
    refine hK _ _ ?_
    clear hK
    go_wp2
    rw [HU.out]
    obtain ⟨r0, r1, r2, _⟩ := HT.out
    obtain ⟨z0, z1, z2, z3, z4, _⟩ := HF.out
    exact bodyPost_ret (v := .tuple #[.agg #[.int .i64 e.k, .int .i64 e.n, .int .i64 e.ak, .int .i64 e.at_, .slice ads e.kids.length cps], .agg #[.slice pa d.i.length ca, .slice pb d.o.length cb, .slice pc d.v.length cc]]) (by simp [results, Try.results10, go_sem, r0, r1, r2, z0, z1, z2, z3, z4]) rfl ⟨_, e, _, d, rfl, ⟨_, rfl, HE.out⟩, hme, HM.out, hd, HB.out⟩
end Go.Proofs.Ytdhmioelmcdflaa
