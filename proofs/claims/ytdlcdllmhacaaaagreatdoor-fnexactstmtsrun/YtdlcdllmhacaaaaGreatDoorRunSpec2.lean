/-
  What chapter 4's model StmtsRun (package spec) answers: l4Run, and StmtsRun.
-/
import Derived.Test.YtdlcdllmhacaaaaGreatDoorRunSpec
namespace Go.Proofs.YtdlcdllmhacaaaaGreatDoor
open Go.ChangeShapes Go.WideShapes Go.ChangeAt Go.RowKit
set_option linter.unusedVariables false
set_option maxRecDepth 100000

theorem fitB_addr {s : StmtD} (h : fitB s = true) (hk : s.k = 1) : addrOk ⟨s.tk, s.ta⟩ = true := by
  unfold fitB at h
  rw [if_pos hk, Bool.and_eq_true] at h
  exact h.1
theorem fitB_kind {s : StmtD} (h : fitB s = true) : s.k = 1 ∨ s.k = 2 ∨ s.k = 3 := by
  unfold fitB at h
  by_cases h1 : s.k = 1
  · exact .inl h1
  · by_cases h2 : s.k = 2
    · exact .inr (.inl h2)
    · by_cases h3 : s.k = 3
      · exact .inr (.inr h3)
      · rw [if_neg h1, if_neg h2, if_neg h3] at h; cases h

set_option maxHeartbeats 16000000 in
theorem runSp_step {dp : Nat} (H : RunSp dp) : RunSp (dp + 1) := by
  intro w lo hi lo' hi' ma mb mc v d d1 ss f f1 c1 hmo hhi hss hhi' hap hd hform hsz hf hr
  obtain ⟨ad, cap, rfl, hc1, hc2⟩ := hss.shape
  have hmx : ss.length ≤ 9223372036854775807 := by unfold maxLen at hc2; omega
  obtain ⟨pa, ca, pb, cb, pc, cc, hm⟩ := hmo.aggs
  simp only [Value.agg.injEq, Array.mk.injEq, List.cons.injEq, and_true] at hm
  have HSL : Hid ((∃ p l c, ma = .slice p l c) ∧ (∃ p l c, mb = .slice p l c) ∧ ∃ p l c, mc = .slice p l c) := ⟨⟨_, _, _, hm.1⟩, ⟨_, _, _, hm.2.1⟩, ⟨_, _, _, hm.2.2⟩⟩
  clear hm
  obtain ⟨⟨pa', la', ca', rfl⟩, ⟨pb', lb', cb', rfl⟩, ⟨pc', lc', cc', rfl⟩⟩ := HSL.out
  clear HSL pa ca pb cb pc cc
  have HSS : Hid (SR w lo' hi' (.slice ad ss.length cap) ss) := hss
  have HFM : Hid (formT (dp + 1) ss = true ∧ sizeL ss ≤ 1048576) := ⟨hform, hsz⟩
  have HMO : Hid (MO w lo hi (.agg #[.slice pa' la' ca', .slice pb' lb' cb', .slice pc' lc' cc']) d) := hmo
  have HR : Hid (memOk d = true ∧ runL (ss.drop 0) d f = (d1, c1, f1)) := ⟨hd, by rw [List.drop_zero]; exact hr⟩
  clear hss hform hsz hmo hr hd hc1 hc2
  go_enter Tryz.func23, Tryz.ntmps23
  go_wp2_with fail
  obtain ⟨u0, hu0, G0, V0, S0⟩ : ∃ u0, (w.alloc (.cells #[.slice pa' la' ca', .slice pb' lb' cb', .slice pc' lc' cc'] 28)).alloc (.cells #[.slice none 0 0, .slice none 0 0, .slice none 0 0] 28) = u0 ∧ Below w.heap.size w u0 ∧ TwoVars u0 w.heap.size (w.heap.size + 1) (.slice pa' la' ca') (.slice pb' lb' cb') (.slice pc' lc' cc') ∧ u0.heap.size = w.heap.size + 2 := by
    have b1 := (Below.refl w.heap.size w).alloc (Nat.le_refl _) (.cells #[.slice pa' la' ca', .slice pb' lb' cb', .slice pc' lc' cc'] 28)
    have n1 := three_new w (.slice pa' la' ca') (.slice pb' lb' cb') (.slice pc' lc' cc') 28
    obtain ⟨w1, e1⟩ : ∃ w1, w.alloc (.cells #[.slice pa' la' ca', .slice pb' lb' cb', .slice pc' lc' cc'] 28) = w1 := ⟨_, rfl⟩
    have s1 : w1.heap.size = w.heap.size + 1 := by rw [← e1]; simp
    rw [e1] at n1 b1 ⊢
    have b3 := (Below.refl w1.heap.size w1).alloc (Nat.le_refl _) (.cells #[.slice none 0 0, .slice none 0 0, .slice none 0 0] 28)
    have n3 := three_new w1 (.slice none 0 0) (.slice none 0 0) (.slice none 0 0) 28
    refine ⟨_, rfl, below_two b1 b3, ⟨n1.at_ (b3.block _ (by omega)), ?_⟩, by rw [World.size_alloc]; omega⟩
    rw [s1] at n3; exact n3
  rw [hu0]
  clear hu0
  have HI0 : Hid (MO u0 lo hi (.agg #[.slice pa' la' ca', .slice pb' lb' cb', .slice pc' lc' cc']) d ∧ Out lo hi w u0 ∧ TwoVars u0 w.heap.size (w.heap.size + 1) (.slice pa' la' ca') (.slice pb' lb' cb') (.slice pc' lc' cc')) := ⟨HMO.out.below G0 hhi, out_of_below G0 lo hi, V0⟩
  clear G0 V0 HMO
  go_loopw [2, 9] (fun q i wr => ∃ (j : Nat) (d : MemD) (f : Nat), q = .int .i64 f ∧ i = .int .i64 j ∧ f ≤ 100 ∧ j ≤ ss.length ∧ w.heap.size + 2 ≤ wr.heap.size ∧ Hid (memOk d = true ∧ runL (ss.drop j) d f = (d1, c1, f1)) ∧ Hid (MO wr lo hi (.agg #[.slice pa' la' ca', .slice pb' lb' cb', .slice pc' lc' cc']) d ∧ Out lo hi w wr ∧ TwoVars wr w.heap.size (w.heap.size + 1) (.slice pa' la' ca') (.slice pb' lb' cb') (.slice pc' lc' cc'))) (fun _ i _ => ss.length - (intOf i).toNat)
  case atStart => exact ⟨0, d, f, rfl, rfl, hf, Nat.zero_le _, by omega, HR.out, HI0.out⟩
  case round =>
    clear HI0 HR hf S0 d f
    obtain ⟨j, d, f, rfl, rfl, hf, hj, hs, HR, HI⟩ := hrel
    by_cases hlt : j < ss.length
    · obtain ⟨s, hs'⟩ : ∃ s, ss[j]? = some s := ⟨ss[j], List.getElem?_eq_getElem hlt⟩
      obtain ⟨b, off, cap', x, y, z, hv, hb1, hb2, h10, hkx, hky, hkz⟩ := HSS.out.at_ hs'
      simp only [Value.slice.injEq, true_and] at hv
      obtain ⟨rfl, rfl⟩ := hv
      obtain ⟨ax, cx, rfl, _, _⟩ := hkx.shape
      obtain ⟨ay, cy, rfl, _, _⟩ := hky.shape
      obtain ⟨az, cz, rfl, _, _⟩ := hkz.shape
      obtain ⟨hfit, hexo, hfth, hfel⟩ := formT_at HFM.out.1 hs'
      have hlt2 := stmt_lt hs'
      have hsz2 := HFM.out.2
      have hst := runL_drop hs' d f
      rw [HR.out.2] at hst
      have HST : Hid _ := hst
      have HX : Hid (KR w lo' hi' (.slice ax s.e.kids.length cx) s.e.kids ∧ SR w lo' hi' (.slice ay s.th.length cy) s.th ∧ SR w lo' hi' (.slice az s.el.length cz) s.el) := ⟨hkx, hky, hkz⟩
      have HE : Hid (exprOk s.e = true ∧ formT dp s.th = true ∧ formT dp s.el = true) := ⟨hexo, hfth, hfel⟩
      have HQ : Hid (sizeL s.th ≤ 1048576 ∧ sizeL s.el ≤ 1048576) := ⟨by omega, by omega⟩
      have HD : Hid (memOk d = true) := HR.out.1
      have hrsO := runS_ok s d f HR.out.1
      obtain ⟨hmo0, hout0, hV0⟩ := HI.out
      have hs0 := hout0.size
      obtain ⟨c0, c1', c2', c3, c4, c5, c6, c7, c8, c9⟩ := h10.kept (hout0.block b (by omega) (by omega))
      obtain ⟨u1, hu1, G1, T1, S1⟩ : ∃ u1, wr.alloc (.cells #[.int .i64 s.k, .int .i64 s.tk, .int .i64 s.ta, .int .i64 s.e.k, .int .i64 s.e.n, .int .i64 s.e.ak, .int .i64 s.e.at_, .slice ax s.e.kids.length cx, .slice ay s.th.length cy, .slice az s.el.length cz] 60) = u1 ∧ Below wr.heap.size wr u1 ∧ TenW u1 wr.heap.size (.int .i64 s.k) (.int .i64 s.tk) (.int .i64 s.ta) (.int .i64 s.e.k) (.int .i64 s.e.n) (.int .i64 s.e.ak) (.int .i64 s.e.at_) (.slice ax s.e.kids.length cx) (.slice ay s.th.length cy) (.slice az s.el.length cz) ∧ u1.heap.size = wr.heap.size + 1 :=
        ⟨_, rfl, (Below.refl _ _).alloc (Nat.le_refl _) _, tenW_new _ _ _ _ _ _ _ _ _ _ _ _, by simp⟩
      have hmo1 := hmo0.below G1 (by omega)
      have hout1 := hout0.trans (out_of_below G1 lo hi)
      have hV1 := hV0.at_ (G1.block _ (by omega)) (G1.block _ (by omega))
      have hT1 := T1
      have HU1 : Hid (_ = u1) := hu1
      have hw0 : w.heap.size < wr.heap.size := by omega
      have hw1 : w.heap.size + 1 < wr.heap.size := by omega
      have hrsk := runS_eq s d f
      obtain ⟨b0, b1', b2', _⟩ := id hV0.p
      clear hs' hkx hky hkz h10 hlt2 hsz2 hst hu1 T1 hmo0 hout0 hV0 HI
      rcases fitB_kind hfit with hk | hk | hk
      · -- a place is set
        have e1 : (s.k == 1) = true := by simp [hk]
        have HAD : Hid (addrOk ⟨s.tk, s.ta⟩ = true) := fitB_addr hfit hk
        rw [if_pos hk] at hrsk
        have HN : Hid (memOk (memSet d ⟨s.tk, s.ta⟩ (evalD 6 d s.e)) = true ∧ runL (ss.drop (j + 1)) (memSet d ⟨s.tk, s.ta⟩ (evalD 6 d s.e)) f = (d1, c1, f1)) := ⟨memOk_set HD.out _ _, by have := HST.out; rw [hrsk] at this; simpa using this.symm⟩
        clear hrsk hrsO hfit hexo hfth hfel hk
        go_wp2_with fail
        rw [HU1.out]
        clear HU1 c0 c1' c2' c3 c4 c5 c6 c7 c8 c9 b0 b1' b2'
        refine wp_region_last (R := Out lo hi) (Φ := fun i v u => match i with
            | 0 => v = .agg #[.slice pa' la' ca', .slice pb' lb' cb', .slice pc' lc' cc']
            | 1 => v = .pointer (some ⟨wr.heap.size, 1, none⟩)
            | 2 => v = .agg #[.int .i64 s.tk, .int .i64 s.ta]
            | 3 => v = .pointer (some ⟨wr.heap.size, 3, none⟩)
            | 4 => v = .agg #[.int .i64 s.e.k, .int .i64 s.e.n, .int .i64 s.e.ak, .int .i64 s.e.at_, .slice ax s.e.kids.length cx]
            | 5 => v = .agg #[.slice pa' la' ca', .slice pb' lb' cb', .slice pc' lc' cc']
            | 6 => v = .int .i64 (evalD 6 d s.e)
            | 7 => v = .agg #[.slice pa' la' ca', .slice pb' lb' cb', .slice pc' lc' cc']
            | _ => True)
          (J := fun L a u => (L.getD 7 true = false → MO u lo hi (.agg #[.slice pa' la' ca', .slice pb' lb' cb', .slice pc' lc' cc']) d) ∧ (L.getD 7 true = true → MO u lo hi (.agg #[.slice pa' la' ca', .slice pb' lb' cb', .slice pc' lc' cc']) (memSet d ⟨s.tk, s.ta⟩ (evalD 6 d s.e)) ∧ L.getD 6 true = true)) 8 _ rfl rfl (by kernel_rfl) (by kernel_rfl) (by kernel_rfl) (by kernel_rfl) (Out.refl lo hi _) (fun _ _ _ h k => h.trans k) ?_ ⟨fun _ => hmo1.below (Below.drew (Below.refl u1.heap.size u1)) (by omega), fun h => by simp at h⟩ ?_ ?_
        · intro i v u u' hr
          match i with
          | 0 | 1 | 2 | 3 | 4 | 5 | 6 | 7 | _ + 8 => exact fun h => h
        · intro i o ho hin L ac u hf hR0 hLs hLi hp he hJ K' hK
          have hR : Out lo hi u1 u := (out_of_below (Below.drew (Below.refl _ _)) lo hi).trans hR0
          have hsz' : ac.tmps.size = 77 := hf.size
          have hus := hR.size
          have hRw : Out lo hi w u := hout1.trans hR
          have hVu : TwoVars u w.heap.size (w.heap.size + 1) (.slice pa' la' ca') (.slice pb' lb' cb') (.slice pc' lc' cc') := hV1.at_ (hR.block _ (by omega) (by omega)) (hR.block _ (by omega) (by omega))
          have hTu := hT1.at_ (hR.block wr.heap.size (by omega) (by omega))
          rcases i with _ | _ | _ | _ | _ | _ | _ | _ | i
          · obtain rfl := Option.some.inj ho
            have q3 : ac.tmps.getD 3 undef = .pointer (some ⟨w.heap.size, 0, none⟩) := hf.at_ 3 (by kernel_rfl)
            clear hp he
            obtain ⟨c0, c1, c2, _⟩ := id (hVu.p)
            go_simp
            exact hK _ _ (Out.refl lo hi _) (getD_put_self ac 35 _ (by show _ < ac.tmps.size; omega)) ⟨fun h => hJ.1 (by rw [getD_set_ne true (by decide)] at h; exact h), fun h => by rw [getD_set_ne true (by decide)] at h; exact ⟨(hJ.2 h).1, by rw [getD_set_ne true (by decide)]; exact (hJ.2 h).2⟩⟩
          · obtain rfl := Option.some.inj ho
            have q10 : ac.tmps.getD 10 undef = .pointer (some ⟨wr.heap.size, 0, none⟩) := hf.at_ 10 (by kernel_rfl)
            clear hp he
            go_simp
            exact hK _ _ (Out.refl lo hi _) (getD_put_self ac 36 _ (by show _ < ac.tmps.size; omega)) ⟨fun h => hJ.1 (by rw [getD_set_ne true (by decide)] at h; exact h), fun h => by rw [getD_set_ne true (by decide)] at h; exact ⟨(hJ.2 h).1, by rw [getD_set_ne true (by decide)]; exact (hJ.2 h).2⟩⟩
          · obtain rfl := Option.some.inj ho
            have q36 : ac.tmps.getD 36 undef = .pointer (some ⟨wr.heap.size, 1, none⟩) := hp 1 _ rfl (he _ (Array.mem_of_getElem? (i := 0) rfl) (by kernel_rfl))
            clear hp he
            obtain ⟨_, k1, k2, _, _, _, _, _, _, _, _⟩ := id hTu
            go_simp
            exact hK _ _ (Out.refl lo hi _) (getD_put_self ac 37 _ (by show _ < ac.tmps.size; omega)) ⟨fun h => hJ.1 (by rw [getD_set_ne true (by decide)] at h; exact h), fun h => by rw [getD_set_ne true (by decide)] at h; exact ⟨(hJ.2 h).1, by rw [getD_set_ne true (by decide)]; exact (hJ.2 h).2⟩⟩
          · obtain rfl := Option.some.inj ho
            have q10 : ac.tmps.getD 10 undef = .pointer (some ⟨wr.heap.size, 0, none⟩) := hf.at_ 10 (by kernel_rfl)
            clear hp he
            go_simp
            exact hK _ _ (Out.refl lo hi _) (getD_put_self ac 38 _ (by show _ < ac.tmps.size; omega)) ⟨fun h => hJ.1 (by rw [getD_set_ne true (by decide)] at h; exact h), fun h => by rw [getD_set_ne true (by decide)] at h; exact ⟨(hJ.2 h).1, by rw [getD_set_ne true (by decide)]; exact (hJ.2 h).2⟩⟩
          · obtain rfl := Option.some.inj ho
            have q38 : ac.tmps.getD 38 undef = .pointer (some ⟨wr.heap.size, 3, none⟩) := hp 3 _ rfl (he _ (Array.mem_of_getElem? (i := 0) rfl) (by kernel_rfl))
            clear hp he
            obtain ⟨_, _, _, k3, k4, k5, k6, k7, _, _, _⟩ := id hTu
            go_simp
            exact hK _ _ (Out.refl lo hi _) (getD_put_self ac 39 _ (by show _ < ac.tmps.size; omega)) ⟨fun h => hJ.1 (by rw [getD_set_ne true (by decide)] at h; exact h), fun h => by rw [getD_set_ne true (by decide)] at h; exact ⟨(hJ.2 h).1, by rw [getD_set_ne true (by decide)]; exact (hJ.2 h).2⟩⟩
          · obtain rfl := Option.some.inj ho
            have q3 : ac.tmps.getD 3 undef = .pointer (some ⟨w.heap.size, 0, none⟩) := hf.at_ 3 (by kernel_rfl)
            clear hp he
            obtain ⟨c0, c1, c2, _⟩ := id (hVu.p)
            go_simp
            exact hK _ _ (Out.refl lo hi _) (getD_put_self ac 40 _ (by show _ < ac.tmps.size; omega)) ⟨fun h => hJ.1 (by rw [getD_set_ne true (by decide)] at h; exact h), fun h => by rw [getD_set_ne true (by decide)] at h; exact ⟨(hJ.2 h).1, by rw [getD_set_ne true (by decide)]; exact (hJ.2 h).2⟩⟩
          · obtain rfl := Option.some.inj ho
            have q39 : ac.tmps.getD 39 undef = .agg #[.int .i64 s.e.k, .int .i64 s.e.n, .int .i64 s.e.ak, .int .i64 s.e.at_, .slice ax s.e.kids.length cx] := hp 4 _ rfl (he _ (Array.mem_of_getElem? (i := 0) rfl) (by kernel_rfl))
            have q40 : ac.tmps.getD 40 undef = .agg #[.slice pa' la' ca', .slice pb' lb' cb', .slice pc' lc' cc'] := hp 5 _ rfl (he _ (Array.mem_of_getElem? (i := 1) rfl) (by kernel_rfl))
            have hJ7 : L.getD 7 true = false := by cases h7 : L.getD 7 true with | false => rfl | true => exact absurd (hJ.2 h7).2 (by rw [hLi]; decide)
            have hmo6 := hJ.1 hJ7
            clear hp he
            go_simp
            refine (ofS 6 u lo' hi' lo hi _ _ s.e d (HX.out.1.out hRw hhi' hap) hmo6.mi (by omega) (by omega) (exprOk_form HE.out.1) HD.out).mono ?_
            rintro e1 u' ⟨rfl, hbu⟩
            exact hK _ _ (out_of_below hbu lo hi) (getD_put_self ac 41 _ (by show _ < ac.tmps.size; omega)) ⟨fun _ => hmo6.below hbu (by omega), fun h => absurd h (by rw [getD_set_ne true (by decide), hJ7]; decide)⟩
          · obtain rfl := Option.some.inj ho
            have q35 : ac.tmps.getD 35 undef = .agg #[.slice pa' la' ca', .slice pb' lb' cb', .slice pc' lc' cc'] := hp 0 _ rfl (he _ (Array.mem_of_getElem? (i := 0) rfl) (by kernel_rfl))
            have q37 : ac.tmps.getD 37 undef = .agg #[.int .i64 s.tk, .int .i64 s.ta] := hp 2 _ rfl (he _ (Array.mem_of_getElem? (i := 1) rfl) (by kernel_rfl))
            have q41 : ac.tmps.getD 41 undef = .int .i64 (evalD 6 d s.e) := hp 6 _ rfl (he _ (Array.mem_of_getElem? (i := 2) rfl) (by kernel_rfl))
            have h6 := he _ (Array.mem_of_getElem? (i := 2) rfl) (by kernel_rfl)
            have h6 : L.getD 6 true = true := h6
            have hmo7 := hJ.1 hLi
            have hpt := l2Put_any u lo hi _ d ⟨s.tk, s.ta⟩ (evalD 6 d s.e) hmo7 (by omega) HD.out HAD.out
            have ev : AddrD.val ⟨s.tk, s.ta⟩ = .agg #[.int .i64 s.tk, .int .i64 s.ta] := rfl
            rw [ev] at hpt
            clear ev
            clear hp he
            go_simp
            refine hpt.mono ?_
            rintro e1 u' ⟨rfl, hmo8, hbu⟩
            exact hK _ _ hbu (getD_put_self ac 42 _ (by show _ < ac.tmps.size; omega)) ⟨fun h => absurd h (by rw [getD_set_self' (by rw [hLs]; decide)]; decide), fun _ => ⟨hmo8, by rw [getD_set_ne true (by decide)]; exact h6⟩⟩
          · omega
        · intro L ac u hf hR0 hp hJ K' hK
          have hR : Out lo hi u1 u := (out_of_below (Below.drew (Below.refl _ _)) lo hi).trans hR0
          have hus := hR.size
          have hRw : Out lo hi w u := hout1.trans hR
          have hmo8 := (hJ.2 (hp 7 _ (by decide) rfl).1).1
          have m42 : ac.tmps.getD 42 undef = .agg #[.slice pa' la' ca', .slice pb' lb' cb', .slice pc' lc' cc'] := (hp 7 _ (by decide) rfl).2
          have hVu : TwoVars u w.heap.size (w.heap.size + 1) (.slice pa' la' ca') (.slice pb' lb' cb') (.slice pc' lc' cc') := hV1.at_ (hR.block _ (by omega) (by omega)) (hR.block _ (by omega) (by omega))
          obtain ⟨u2, hu2, T2, N2, S2, B2⟩ := three_store hVu.p (.slice pa' la' ca') (.slice pb' lb' cb') (.slice pc' lc' cc')
          have HU2 : Hid (_ = u2) := hu2
          have HI2 : Hid (MO u2 lo hi (.agg #[.slice pa' la' ca', .slice pb' lb' cb', .slice pc' lc' cc']) (memSet d ⟨s.tk, s.ta⟩ (evalD 6 d s.e)) ∧ Out lo hi w u2 ∧ TwoVars u2 w.heap.size (w.heap.size + 1) (.slice pa' la' ca') (.slice pb' lb' cb') (.slice pc' lc' cc')) := ⟨hmo8.kept fun k h1 h2 => N2 k (by omega), hRw.put B2 N2 S2 (Nat.le_refl _), ⟨T2, hVu.q.at_ (N2 _ (by omega))⟩⟩
          obtain ⟨c0, c1, c2, cf⟩ := id hVu.p
          have cf0 := cf 0
          have cf1 := cf 1
          have cf2 := cf 2
          clear hp hJ hR0 hR hRw hmo8 hVu hu2 T2 N2 B2 cf hV1 hT1 hmo1 hout1
          obtain ⟨fq, ea, hfv⟩ := act_lit ac 77 hf.size
          have md : ac.defers = [] := hf.defers
          rw [md] at ea
          have m0 := hf.at_ 0 (by kernel_rfl)
          have m1 := hf.at_ 1 (by kernel_rfl)
          have m2 := hf.at_ 2 (by kernel_rfl)
          have m3 := hf.at_ 3 (by kernel_rfl)
          have m4 := hf.at_ 4 (by kernel_rfl)
          have m5 := hf.at_ 5 (by kernel_rfl)
          have m6 := hf.at_ 6 (by kernel_rfl)
          have m7 := hf.at_ 7 (by kernel_rfl)
          have m8 := hf.at_ 8 (by kernel_rfl)
          have m9 := hf.at_ 9 (by kernel_rfl)
          have m10 := hf.at_ 10 (by kernel_rfl)
          have m11 := hf.at_ 11 (by kernel_rfl)
          have m12 := hf.at_ 12 (by kernel_rfl)
          have m13 := hf.at_ 13 (by kernel_rfl)
          have m14 := hf.at_ 14 (by kernel_rfl)
          have m15 := hf.at_ 15 (by kernel_rfl)
          have m16 := hf.at_ 16 (by kernel_rfl)
          have m17 := hf.at_ 17 (by kernel_rfl)
          have m18 := hf.at_ 18 (by kernel_rfl)
          have m19 := hf.at_ 19 (by kernel_rfl)
          have m20 := hf.at_ 20 (by kernel_rfl)
          have m21 := hf.at_ 21 (by kernel_rfl)
          have m22 := hf.at_ 22 (by kernel_rfl)
          have m23 := hf.at_ 23 (by kernel_rfl)
          have m24 := hf.at_ 24 (by kernel_rfl)
          have m25 := hf.at_ 25 (by kernel_rfl)
          have m26 := hf.at_ 26 (by kernel_rfl)
          have m27 := hf.at_ 27 (by kernel_rfl)
          have m28 := hf.at_ 28 (by kernel_rfl)
          have m29 := hf.at_ 29 (by kernel_rfl)
          have m30 := hf.at_ 30 (by kernel_rfl)
          have m31 := hf.at_ 31 (by kernel_rfl)
          have m32 := hf.at_ 32 (by kernel_rfl)
          have m33 := hf.at_ 33 (by kernel_rfl)
          have m34 := hf.at_ 34 (by kernel_rfl)
          have m43 := hf.at_ 43 (by kernel_rfl)
          have m44 := hf.at_ 44 (by kernel_rfl)
          have m45 := hf.at_ 45 (by kernel_rfl)
          have m46 := hf.at_ 46 (by kernel_rfl)
          have m47 := hf.at_ 47 (by kernel_rfl)
          have m48 := hf.at_ 48 (by kernel_rfl)
          have m49 := hf.at_ 49 (by kernel_rfl)
          have m50 := hf.at_ 50 (by kernel_rfl)
          have m51 := hf.at_ 51 (by kernel_rfl)
          have m52 := hf.at_ 52 (by kernel_rfl)
          have m53 := hf.at_ 53 (by kernel_rfl)
          have m54 := hf.at_ 54 (by kernel_rfl)
          have m55 := hf.at_ 55 (by kernel_rfl)
          have m56 := hf.at_ 56 (by kernel_rfl)
          have m57 := hf.at_ 57 (by kernel_rfl)
          have m58 := hf.at_ 58 (by kernel_rfl)
          have m59 := hf.at_ 59 (by kernel_rfl)
          have m60 := hf.at_ 60 (by kernel_rfl)
          have m61 := hf.at_ 61 (by kernel_rfl)
          have m62 := hf.at_ 62 (by kernel_rfl)
          have m63 := hf.at_ 63 (by kernel_rfl)
          have m64 := hf.at_ 64 (by kernel_rfl)
          have m65 := hf.at_ 65 (by kernel_rfl)
          have m66 := hf.at_ 66 (by kernel_rfl)
          have m67 := hf.at_ 67 (by kernel_rfl)
          have m68 := hf.at_ 68 (by kernel_rfl)
          have m69 := hf.at_ 69 (by kernel_rfl)
          have m70 := hf.at_ 70 (by kernel_rfl)
          have m71 := hf.at_ 71 (by kernel_rfl)
          have m72 := hf.at_ 72 (by kernel_rfl)
          have m73 := hf.at_ 73 (by kernel_rfl)
          have m74 := hf.at_ 74 (by kernel_rfl)
          have m75 := hf.at_ 75 (by kernel_rfl)
          have m76 := hf.at_ 76 (by kernel_rfl)
          rw [← hfv] at m0 m1 m2 m3 m4 m5 m6 m7 m8 m9 m10 m11 m12 m13 m14 m15 m16 m17 m18 m19 m20 m21 m22 m23 m24 m25 m26 m27 m28 m29 m30 m31 m32 m33 m34 m43 m44 m45 m46 m47 m48 m49 m50 m51 m52 m53 m54 m55 m56 m57 m58 m59 m60 m61 m62 m63 m64 m65 m66 m67 m68 m69 m70 m71 m72 m73 m74 m75 m76 m42
          simp only [Array.getD_eq_getD_getElem?, List.getElem?_toArray, List.getElem?_cons_succ, List.getElem?_cons_zero, Option.getD_some] at m0 m1 m2 m3 m4 m5 m6 m7 m8 m9 m10 m11 m12 m13 m14 m15 m16 m17 m18 m19 m20 m21 m22 m23 m24 m25 m26 m27 m28 m29 m30 m31 m32 m33 m34 m43 m44 m45 m46 m47 m48 m49 m50 m51 m52 m53 m54 m55 m56 m57 m58 m59 m60 m61 m62 m63 m64 m65 m66 m67 m68 m69 m70 m71 m72 m73 m74 m75 m76
          simp only [List.range, List.range.loop, List.map_cons, List.map_nil, m0, m1, m2, m3, m4, m5, m6, m7, m8, m9, m10, m11, m12, m13, m14, m15, m16, m17, m18, m19, m20, m21, m22, m23, m24, m25, m26, m27, m28, m29, m30, m31, m32, m33, m34, m43, m44, m45, m46, m47, m48, m49, m50, m51, m52, m53, m54, m55, m56, m57, m58, m59, m60, m61, m62, m63, m64, m65, m66, m67, m68, m69, m70, m71, m72, m73, m74, m75, m76, m42] at ea
          subst ea
          clear m0 m1 m2 m3 m4 m5 m6 m7 m8 m9 m10 m11 m12 m13 m14 m15 m16 m17 m18 m19 m20 m21 m22 m23 m24 m25 m26 m27 m28 m29 m30 m31 m32 m33 m34 m43 m44 m45 m46 m47 m48 m49 m50 m51 m52 m53 m54 m55 m56 m57 m58 m59 m60 m61 m62 m63 m64 m65 m66 m67 m68 m69 m70 m71 m72 m73 m74 m75 m76 m42 hfv md hf
          go_simp
          refine hK _ _ ?_
          clear hK
          try rw [HU2.out]
          clear c0 c1 c2 cf0 cf1 cf2
          go_wp2
          try rw [HU2.out]
          go_roundw
          case rel => exact ⟨j + 1, _, f, rfl, by go_num, hf, by omega, by omega, HN.out, HI2.out⟩
          case measure => simp [intOf]; omega
      · -- one of two lists
        have e1 : (s.k == 1) = false := by simp [hk]
        have e2 : (s.k == 3) = false := by simp [hk]
        have hof := ofS 6 u1 lo' hi' lo hi _ _ s.e d (HX.out.1.out hout1 hhi' hap) hmo1.mi (by omega) (by omega) (exprOk_form HE.out.1) HD.out
        have hk3 : ¬ s.k = 3 := by omega
        have hk1 : ¬ s.k = 1 := by omega
        rw [if_neg hk1, if_neg hk3] at hrsk
        clear hk1 hk3 hk hfit hexo hfth hfel
        go_wp2_with fail
        rw [HU1.out]
        refine hof.mono ?_
        clear HU1 hof c0 c1' c2' c3 c4 c5 c6 c7 c8 c9 b0 b1' b2'
        rintro en v1 ⟨rfl, gv⟩
        have hsv := gv.size
        have hmo1 := hmo1.below gv (by omega)
        have hout1 := hout1.trans (out_of_below gv lo hi)
        have hV1 := hV1.at_ (gv.block _ (by omega)) (gv.block _ (by omega))
        have hT1 := hT1.under gv (by omega)
        clear gv
        have hon := fun W => sOn_any (evalD 6 d s.e) W
        go_wp2_with fail
        refine (hon _).mono ?_
        rintro en v2 ⟨rfl, rfl⟩
        clear hon
        have hon' : onD s.e d = (evalD 6 d s.e != 0) := rfl
        rw [hon'] at hrsk
        cases hc : (evalD 6 d s.e != 0) with
        | true =>
          rw [hc, if_pos rfl] at hrsk
          obtain ⟨⟨d2, c2, f2⟩, hrb⟩ : ∃ r, runL s.th d f = r := ⟨_, rfl⟩
          have hrs : runS s d f = (d2, c2, f2) := hrsk.trans hrb
          rw [hrs] at hrsO
          obtain ⟨hmk, hfl, hcode⟩ := hrsO
          simp only at hmk hfl hcode
          have hrun := H _ lo hi lo' hi' _ _ _ _ d d2 s.th f f2 c2 hmo1 (by omega) (HX.out.2.1.out hout1 hhi' hap) (by omega) hap HD.out HE.out.2.1 HQ.out.1 hf hrb
          obtain ⟨b0, b1', b2', _⟩ := id hV1.p
          have e8 := hT1.c8
          clear hrsk
          go_wp2_with fail
          refine hrun.mono ?_
          clear hrun b0 b1' b2' e8
          rintro en u2 ⟨rfl, hmo2, hout2⟩
          have hs2 := hout2.size
          have hV2 := hV1.at_ (hout2.block w.heap.size (by omega) (by omega)) (hout2.block (w.heap.size + 1) (by omega) (by omega))
          have hout02 := hout1.trans hout2
          obtain ⟨u3, hu3, T3, N3, S3, B3⟩ := three_store hV2.p (.slice pa' la' ca') (.slice pb' lb' cb') (.slice pc' lc' cc')
          have HU3 : Hid (_ = u3) := hu3
          have hmo3 : MO u3 lo hi (.agg #[.slice pa' la' ca', .slice pb' lb' cb', .slice pc' lc' cc']) d2 := hmo2.kept fun k h1 h2 => N3 k (by omega)
          have hout3 : Out lo hi w u3 := hout02.put B3 N3 S3 (Nat.le_refl _)
          have hV3 : TwoVars u3 w.heap.size (w.heap.size + 1) (.slice pa' la' ca') (.slice pb' lb' cb') (.slice pc' lc' cc') := ⟨T3, hV2.q.at_ (N3 _ (by omega))⟩
          obtain ⟨c0, c1', c2', cf⟩ := id hV2.p
          have cf0 := cf 0
          have cf1 := cf 1
          have cf2 := cf 2
          have hne0 : ¬ w.heap.size = w.heap.size + 1 := by omega
          rcases hcode with rfl | ⟨rfl, rfl⟩
          · have HN : Hid (memOk d2 = true ∧ runL (ss.drop (j + 1)) d2 f2 = (d1, c1, f1)) := ⟨hmk, by have := HST.out; rw [hrs] at this; simpa using this.symm⟩
            have HI3 : Hid (MO u3 lo hi (.agg #[.slice pa' la' ca', .slice pb' lb' cb', .slice pc' lc' cc']) d2 ∧ Out lo hi w u3 ∧ TwoVars u3 w.heap.size (w.heap.size + 1) (.slice pa' la' ca') (.slice pb' lb' cb') (.slice pc' lc' cc')) := ⟨hmo3, hout3, hV3⟩
            clear hu3 T3 N3 B3 cf hmo2 hmo3 hout2 hout3 hout02 hV2 hV3 hmo1 hout1 hV1 hT1
            go_wp2
            rw [HU3.out]
            go_roundw
            case rel => exact ⟨j + 1, d2, f2, rfl, by go_num, by omega, by omega, by omega, HN.out, HI3.out⟩
            case measure => simp [intOf]; omega
          · have hst := HST.out
            rw [hrs] at hst
            rw [if_pos (by simp)] at hst
            simp only [Prod.mk.injEq] at hst
            obtain ⟨rfl, rfl, rfl⟩ := hst
            obtain ⟨u4, hu4, T4, N4, S4, B4⟩ := three_store hV3.q (.slice pa' la' ca') (.slice pb' lb' cb') (.slice pc' lc' cc')
            have HU4 : Hid (_ = u4) := hu4
            have HO : Hid (MO u4 lo hi (.agg #[.slice pa' la' ca', .slice pb' lb' cb', .slice pc' lc' cc']) d1 ∧ Out lo hi w u4) := ⟨hmo3.kept fun k h1 h2 => N4 k (by omega), hout3.put B4 N4 S4 (by omega)⟩
            have HT4 : Hid (Three u4 (w.heap.size + 1) (.slice pa' la' ca') (.slice pb' lb' cb') (.slice pc' lc' cc')) := T4
            obtain ⟨q0, q1, q2, qf⟩ := id hV2.q
            have qf0 := qf 0
            have qf1 := qf 1
            have qf2 := qf 2
            clear hu3 hu4 T3 N3 B3 T4 N4 B4 cf qf hmo2 hmo3 hout2 hout3 hout02 hV2 hV3 hmo1 hout1 hV1 hT1
            go_wp2
            rw [HU3.out, HU4.out]
            obtain ⟨r0, r1, r2, _⟩ := HT4.out
            exact bodyPost_ret (v := .tuple #[.agg #[.slice pa' la' ca', .slice pb' lb' cb', .slice pc' lc' cc'], .int .i64 1, .int .i64 0]) (by simp [results, Tryz.results23, go_sem, r0, r1, r2]) rfl ⟨rfl, HO.out.1, HO.out.2⟩
        | false =>
          rw [hc, if_neg (by simp)] at hrsk
          obtain ⟨⟨d2, c2, f2⟩, hrb⟩ : ∃ r, runL s.el d f = r := ⟨_, rfl⟩
          have hrs : runS s d f = (d2, c2, f2) := hrsk.trans hrb
          rw [hrs] at hrsO
          obtain ⟨hmk, hfl, hcode⟩ := hrsO
          simp only at hmk hfl hcode
          have hrun := H _ lo hi lo' hi' _ _ _ _ d d2 s.el f f2 c2 hmo1 (by omega) (HX.out.2.2.out hout1 hhi' hap) (by omega) hap HD.out HE.out.2.2 HQ.out.2 hf hrb
          obtain ⟨b0, b1', b2', _⟩ := id hV1.p
          have e9 := hT1.c9
          clear hrsk
          go_wp2_with fail
          refine hrun.mono ?_
          clear hrun b0 b1' b2' e9
          rintro en u2 ⟨rfl, hmo2, hout2⟩
          have hs2 := hout2.size
          have hV2 := hV1.at_ (hout2.block w.heap.size (by omega) (by omega)) (hout2.block (w.heap.size + 1) (by omega) (by omega))
          have hout02 := hout1.trans hout2
          obtain ⟨u3, hu3, T3, N3, S3, B3⟩ := three_store hV2.p (.slice pa' la' ca') (.slice pb' lb' cb') (.slice pc' lc' cc')
          have HU3 : Hid (_ = u3) := hu3
          have hmo3 : MO u3 lo hi (.agg #[.slice pa' la' ca', .slice pb' lb' cb', .slice pc' lc' cc']) d2 := hmo2.kept fun k h1 h2 => N3 k (by omega)
          have hout3 : Out lo hi w u3 := hout02.put B3 N3 S3 (Nat.le_refl _)
          have hV3 : TwoVars u3 w.heap.size (w.heap.size + 1) (.slice pa' la' ca') (.slice pb' lb' cb') (.slice pc' lc' cc') := ⟨T3, hV2.q.at_ (N3 _ (by omega))⟩
          obtain ⟨c0, c1', c2', cf⟩ := id hV2.p
          have cf0 := cf 0
          have cf1 := cf 1
          have cf2 := cf 2
          have hne0 : ¬ w.heap.size = w.heap.size + 1 := by omega
          rcases hcode with rfl | ⟨rfl, rfl⟩
          · have HN : Hid (memOk d2 = true ∧ runL (ss.drop (j + 1)) d2 f2 = (d1, c1, f1)) := ⟨hmk, by have := HST.out; rw [hrs] at this; simpa using this.symm⟩
            have HI3 : Hid (MO u3 lo hi (.agg #[.slice pa' la' ca', .slice pb' lb' cb', .slice pc' lc' cc']) d2 ∧ Out lo hi w u3 ∧ TwoVars u3 w.heap.size (w.heap.size + 1) (.slice pa' la' ca') (.slice pb' lb' cb') (.slice pc' lc' cc')) := ⟨hmo3, hout3, hV3⟩
            clear hu3 T3 N3 B3 cf hmo2 hmo3 hout2 hout3 hout02 hV2 hV3 hmo1 hout1 hV1 hT1
            go_wp2
            rw [HU3.out]
            go_roundw
            case rel => exact ⟨j + 1, d2, f2, rfl, by go_num, by omega, by omega, by omega, HN.out, HI3.out⟩
            case measure => simp [intOf]; omega
          · have hst := HST.out
            rw [hrs] at hst
            rw [if_pos (by simp)] at hst
            simp only [Prod.mk.injEq] at hst
            obtain ⟨rfl, rfl, rfl⟩ := hst
            obtain ⟨u4, hu4, T4, N4, S4, B4⟩ := three_store hV3.q (.slice pa' la' ca') (.slice pb' lb' cb') (.slice pc' lc' cc')
            have HU4 : Hid (_ = u4) := hu4
            have HO : Hid (MO u4 lo hi (.agg #[.slice pa' la' ca', .slice pb' lb' cb', .slice pc' lc' cc']) d1 ∧ Out lo hi w u4) := ⟨hmo3.kept fun k h1 h2 => N4 k (by omega), hout3.put B4 N4 S4 (by omega)⟩
            have HT4 : Hid (Three u4 (w.heap.size + 1) (.slice pa' la' ca') (.slice pb' lb' cb') (.slice pc' lc' cc')) := T4
            obtain ⟨q0, q1, q2, qf⟩ := id hV2.q
            have qf0 := qf 0
            have qf1 := qf 1
            have qf2 := qf 2
            clear hu3 hu4 T3 N3 B3 T4 N4 B4 cf qf hmo2 hmo3 hout2 hout3 hout02 hV2 hV3 hmo1 hout1 hV1 hT1
            go_wp2
            rw [HU3.out, HU4.out]
            obtain ⟨r0, r1, r2, _⟩ := HT4.out
            exact bodyPost_ret (v := .tuple #[.agg #[.slice pa' la' ca', .slice pb' lb' cb', .slice pc' lc' cc'], .int .i64 1, .int .i64 0]) (by simp [results, Tryz.results23, go_sem, r0, r1, r2]) rfl ⟨rfl, HO.out.1, HO.out.2⟩
      · -- a loop
        have e1 : (s.k == 1) = false := by simp [hk]
        have e2 : (s.k == 3) = true := by simp [hk]
        have hk1 : ¬ s.k = 1 := by omega
        rw [if_neg hk1, if_pos hk] at hrsk
        obtain ⟨⟨d2, c2, f2⟩, hrb⟩ : ∃ r, whileD (onD s.e) (runL s.th) (f + 1) d f = r := ⟨_, rfl⟩
        have hrs : runS s d f = (d2, c2, f2) := hrsk.trans hrb
        rw [hrs] at hrsO
        obtain ⟨hmk, hfl, hcode⟩ := hrsO
        simp only at hmk hfl hcode
        have hrun := l4While_of H u1 lo hi lo' hi' _ _ _ d d2 s ax ay az cx cy cz f f2 c2 hmo1 (by omega) (HX.out.1.out hout1 hhi' hap) (HX.out.2.1.out hout1 hhi' hap) (by omega) hap HD.out HE.out.1 HE.out.2.1 HQ.out.1 hf hrb
        clear hrsk hk hk1 hfit hexo hfth hfel
        go_wp2_with fail
        rw [HU1.out]
        refine hrun.mono ?_
        clear HU1 hrun c0 c1' c2' c3 c4 c5 c6 c7 c8 c9 b0 b1' b2'
        rintro en u2 ⟨rfl, hmo2, hout2⟩
        have hs2 := hout2.size
        have hV2 := hV1.at_ (hout2.block w.heap.size (by omega) (by omega)) (hout2.block (w.heap.size + 1) (by omega) (by omega))
        have hout02 := hout1.trans hout2
        obtain ⟨u3, hu3, T3, N3, S3, B3⟩ := three_store hV2.p (.slice pa' la' ca') (.slice pb' lb' cb') (.slice pc' lc' cc')
        have HU3 : Hid (_ = u3) := hu3
        have hmo3 : MO u3 lo hi (.agg #[.slice pa' la' ca', .slice pb' lb' cb', .slice pc' lc' cc']) d2 := hmo2.kept fun k h1 h2 => N3 k (by omega)
        have hout3 : Out lo hi w u3 := hout02.put B3 N3 S3 (Nat.le_refl _)
        have hV3 : TwoVars u3 w.heap.size (w.heap.size + 1) (.slice pa' la' ca') (.slice pb' lb' cb') (.slice pc' lc' cc') := ⟨T3, hV2.q.at_ (N3 _ (by omega))⟩
        obtain ⟨c0, c1', c2', cf⟩ := id hV2.p
        have cf0 := cf 0
        have cf1 := cf 1
        have cf2 := cf 2
        have hne0 : ¬ w.heap.size = w.heap.size + 1 := by omega
        rcases hcode with rfl | ⟨rfl, rfl⟩
        · have HN : Hid (memOk d2 = true ∧ runL (ss.drop (j + 1)) d2 f2 = (d1, c1, f1)) := ⟨hmk, by have := HST.out; rw [hrs] at this; simpa using this.symm⟩
          have HI3 : Hid (MO u3 lo hi (.agg #[.slice pa' la' ca', .slice pb' lb' cb', .slice pc' lc' cc']) d2 ∧ Out lo hi w u3 ∧ TwoVars u3 w.heap.size (w.heap.size + 1) (.slice pa' la' ca') (.slice pb' lb' cb') (.slice pc' lc' cc')) := ⟨hmo3, hout3, hV3⟩
          clear hu3 T3 N3 B3 cf hmo2 hmo3 hout2 hout3 hout02 hV2 hV3 hmo1 hout1 hV1 hT1
          go_wp2
          rw [HU3.out]
          go_roundw
          case rel => exact ⟨j + 1, d2, f2, rfl, by go_num, by omega, by omega, by omega, HN.out, HI3.out⟩
          case measure => simp [intOf]; omega
        · have hst := HST.out
          rw [hrs] at hst
          rw [if_pos (by simp)] at hst
          simp only [Prod.mk.injEq] at hst
          obtain ⟨rfl, rfl, rfl⟩ := hst
          obtain ⟨u4, hu4, T4, N4, S4, B4⟩ := three_store hV3.q (.slice pa' la' ca') (.slice pb' lb' cb') (.slice pc' lc' cc')
          have HU4 : Hid (_ = u4) := hu4
          have HO : Hid (MO u4 lo hi (.agg #[.slice pa' la' ca', .slice pb' lb' cb', .slice pc' lc' cc']) d1 ∧ Out lo hi w u4) := ⟨hmo3.kept fun k h1 h2 => N4 k (by omega), hout3.put B4 N4 S4 (by omega)⟩
          have HT4 : Hid (Three u4 (w.heap.size + 1) (.slice pa' la' ca') (.slice pb' lb' cb') (.slice pc' lc' cc')) := T4
          obtain ⟨q0, q1, q2, qf⟩ := id hV2.q
          have qf0 := qf 0
          have qf1 := qf 1
          have qf2 := qf 2
          clear hu3 hu4 T3 N3 B3 T4 N4 B4 cf qf hmo2 hmo3 hout2 hout3 hout02 hV2 hV3 hmo1 hout1 hV1 hT1
          go_wp2
          rw [HU3.out, HU4.out]
          obtain ⟨r0, r1, r2, _⟩ := HT4.out
          exact bodyPost_ret (v := .tuple #[.agg #[.slice pa' la' ca', .slice pb' lb' cb', .slice pc' lc' cc'], .int .i64 1, .int .i64 0]) (by simp [results, Tryz.results23, go_sem, r0, r1, r2]) rfl ⟨rfl, HO.out.1, HO.out.2⟩
    · obtain rfl : j = ss.length := by omega
      have hst := HR.out.2
      rw [runL_drop_all] at hst
      simp only [Prod.mk.injEq] at hst
      obtain ⟨rfl, rfl, rfl⟩ := hst
      obtain ⟨hmo0, hout0, hV0⟩ := HI.out
      obtain ⟨u4, hu4, T4, N4, S4, B4⟩ := three_store hV0.q (.slice pa' la' ca') (.slice pb' lb' cb') (.slice pc' lc' cc')
      have HU4 : Hid (_ = u4) := hu4
      have hs0 := hout0.size
      have HO : Hid (MO u4 lo hi (.agg #[.slice pa' la' ca', .slice pb' lb' cb', .slice pc' lc' cc']) d ∧ Out lo hi w u4) := ⟨hmo0.kept fun k h1 h2 => N4 k (by omega), hout0.put B4 N4 S4 (by omega)⟩
      have HT4 : Hid (Three u4 (w.heap.size + 1) (.slice pa' la' ca') (.slice pb' lb' cb') (.slice pc' lc' cc')) := T4
      obtain ⟨b0, b1', b2', _⟩ := id hV0.p
      obtain ⟨q0, q1, q2, qf⟩ := id hV0.q
      have qf0 := qf 0
      have qf1 := qf 1
      have qf2 := qf 2
      clear hu4 T4 N4 B4 qf hmo0 hout0 hV0 HI
      go_wp2
      rw [HU4.out]
      obtain ⟨r0, r1, r2, _⟩ := HT4.out
      exact bodyPost_ret (v := .tuple #[.agg #[.slice pa' la' ca', .slice pb' lb' cb', .slice pc' lc' cc'], .int .i64 0, .int .i64 (f : Int)]) (by simp [results, Tryz.results23, go_sem, r0, r1, r2]) rfl ⟨rfl, HO.out.1, HO.out.2⟩

set_option maxHeartbeats 1000000 in
theorem runSp_nil (w : World) (lo hi lo' hi' : Nat) (ma mb mc v : Value) (d d1 : MemD) (f f1 : Nat) (c1 : Int) (hmo : MO w lo hi (.agg #[ma, mb, mc]) d) (hhi : hi ≤ w.heap.size) (hss : SR w lo' hi' v []) (hd : memOk d = true) (hf : f ≤ 100) (hr : runL [] d f = (d1, c1, f1)) :
    Calls Tryz.prog 23 #[.agg #[ma, mb, mc], v, .int .i64 f] w fun e w' => e = .returned (.tuple #[.agg #[ma, mb, mc], .int .i64 c1, .int .i64 f1]) ∧ MO w' lo hi (.agg #[ma, mb, mc]) d1 ∧ Out lo hi w w' := by
  obtain ⟨ad, cap, rfl, hc1, hc2⟩ := hss.shape
  rw [runL_nil] at hr
  simp only [Prod.mk.injEq] at hr
  obtain ⟨rfl, rfl, rfl⟩ := hr
  obtain ⟨pa, ca, pb, cb, pc, cc, hm⟩ := hmo.aggs
  simp only [Value.agg.injEq, Array.mk.injEq, List.cons.injEq, and_true] at hm
  have HSL : Hid ((∃ p l c, ma = .slice p l c) ∧ (∃ p l c, mb = .slice p l c) ∧ ∃ p l c, mc = .slice p l c) := ⟨⟨_, _, _, hm.1⟩, ⟨_, _, _, hm.2.1⟩, ⟨_, _, _, hm.2.2⟩⟩
  clear hm
  obtain ⟨⟨pa', la', ca', rfl⟩, ⟨pb', lb', cb', rfl⟩, ⟨pc', lc', cc', rfl⟩⟩ := HSL.out
  clear HSL pa ca pb cb pc cc hss hc1 hc2
  have HMO : Hid (MO w lo hi (.agg #[.slice pa' la' ca', .slice pb' lb' cb', .slice pc' lc' cc']) d) := hmo
  clear hmo
  go_enter Tryz.func23, Tryz.ntmps23
  go_wp2_with fail
  obtain ⟨u0, hu0, G0, V0, S0⟩ : ∃ u0, (w.alloc (.cells #[.slice pa' la' ca', .slice pb' lb' cb', .slice pc' lc' cc'] 28)).alloc (.cells #[.slice none 0 0, .slice none 0 0, .slice none 0 0] 28) = u0 ∧ Below w.heap.size w u0 ∧ TwoVars u0 w.heap.size (w.heap.size + 1) (.slice pa' la' ca') (.slice pb' lb' cb') (.slice pc' lc' cc') ∧ u0.heap.size = w.heap.size + 2 := by
    have b1 := (Below.refl w.heap.size w).alloc (Nat.le_refl _) (.cells #[.slice pa' la' ca', .slice pb' lb' cb', .slice pc' lc' cc'] 28)
    have n1 := three_new w (.slice pa' la' ca') (.slice pb' lb' cb') (.slice pc' lc' cc') 28
    obtain ⟨w1, e1⟩ : ∃ w1, w.alloc (.cells #[.slice pa' la' ca', .slice pb' lb' cb', .slice pc' lc' cc'] 28) = w1 := ⟨_, rfl⟩
    have s1 : w1.heap.size = w.heap.size + 1 := by rw [← e1]; simp
    rw [e1] at n1 b1 ⊢
    have b3 := (Below.refl w1.heap.size w1).alloc (Nat.le_refl _) (.cells #[.slice none 0 0, .slice none 0 0, .slice none 0 0] 28)
    have n3 := three_new w1 (.slice none 0 0) (.slice none 0 0) (.slice none 0 0) 28
    refine ⟨_, rfl, below_two b1 b3, ⟨n1.at_ (b3.block _ (by omega)), ?_⟩, by rw [World.size_alloc]; omega⟩
    rw [s1] at n3; exact n3
  rw [hu0]
  clear hu0
  have HI0 : Hid (MO u0 lo hi (.agg #[.slice pa' la' ca', .slice pb' lb' cb', .slice pc' lc' cc']) d ∧ Out lo hi w u0 ∧ TwoVars u0 w.heap.size (w.heap.size + 1) (.slice pa' la' ca') (.slice pb' lb' cb') (.slice pc' lc' cc')) := ⟨HMO.out.below G0 hhi, out_of_below G0 lo hi, V0⟩
  clear G0 V0 HMO
  go_loopw [2, 9] (fun q i wr => q = .int .i64 f ∧ i = .int .i64 0 ∧ wr = u0) (fun _ _ _ => 0)
  case atStart => exact ⟨rfl, rfl, rfl⟩
  case round =>
    obtain ⟨rfl, rfl, rfl⟩ := hrel
    obtain ⟨hmo0, hout0, hV0⟩ := HI0.out
    obtain ⟨u4, hu4, T4, N4, S4, B4⟩ := three_store hV0.q (.slice pa' la' ca') (.slice pb' lb' cb') (.slice pc' lc' cc')
    have HU4 : Hid (_ = u4) := hu4
    have hs0 := hout0.size
    have HO : Hid (MO u4 lo hi (.agg #[.slice pa' la' ca', .slice pb' lb' cb', .slice pc' lc' cc']) d ∧ Out lo hi w u4) := ⟨hmo0.kept fun k h1 h2 => N4 k (by omega), hout0.put B4 N4 S4 (by omega)⟩
    have HT4 : Hid (Three u4 (w.heap.size + 1) (.slice pa' la' ca') (.slice pb' lb' cb') (.slice pc' lc' cc')) := T4
    obtain ⟨b0, b1', b2', _⟩ := id hV0.p
    obtain ⟨q0, q1, q2, qf⟩ := id hV0.q
    have qf0 := qf 0
    have qf1 := qf 1
    have qf2 := qf 2
    clear hu4 T4 N4 B4 qf hmo0 hout0 hV0 HI0
    go_wp2
    rw [HU4.out]
    obtain ⟨r0, r1, r2, _⟩ := HT4.out
    exact bodyPost_ret (v := .tuple #[.agg #[.slice pa' la' ca', .slice pb' lb' cb', .slice pc' lc' cc'], .int .i64 0, .int .i64 (f : Int)]) (by simp [results, Tryz.results23, go_sem, r0, r1, r2]) rfl ⟨rfl, HO.out.1, HO.out.2⟩

theorem runSp_zero : RunSp 0 := by
  intro w lo hi lo' hi' ma mb mc v d d1 ss f f1 c1 hmo hhi hss hhi' hap hd hform hsz hf hr
  have hnil : ss = [] := by rw [formT] at hform; simpa using hform
  subst hnil
  exact runSp_nil w lo hi lo' hi' ma mb mc v d d1 f f1 c1 hmo hhi hss hd hf hr

theorem runSp : ∀ dp, RunSp dp
  | 0 => runSp_zero
  | dp + 1 => runSp_step (runSp dp)
end Go.Proofs.YtdlcdllmhacaaaaGreatDoor
