/-
  The program's ChartNew.
-/
import Derived.Test.YtokphdpaghkakaaBits
import Derived.Test.YtokphdpaghkakaaChartImpl
namespace Go.Proofs.Ytokphdpaghkakaa
open Go.ChangeShapes Go.WideShapes Go.ChangeAt Go.RowKit
set_option linter.unusedVariables false
set_option linter.unusedSimpArgs false
set_option maxRecDepth 100000

theorem si_one (w : World) (z : Int) (t : TypeId) : SI (w.alloc (.cells #[.int .i64 z] t)) w.heap.size (w.heap.size + 1) (.slice (some ⟨w.heap.size, 0, none⟩) 1 1) [z] :=
  ⟨_, 1, rfl, Nat.le_refl _, by unfold maxLen; omega, .inr ⟨w.heap.size, 0, rfl, Nat.le_refl _, Nat.lt_succ_self _, fun i x hx => by
    have hi : i = 0 := by have := (List.getElem?_eq_some_iff.mp hx).1; simp at this; exact this
    subst hi
    simp at hx
    subst hx
    exact World.cell?_alloc_new _ _ _ _⟩⟩

theorem go_cell0 {w : World} {b n : Nat} {x : Bool} {ps : List Bool} (h : GO bool2 w b (b + 1) (.slice (some ⟨b, 0, none⟩) n n) ps) (hx : ps[0]? = some x) : w.cell? ⟨b, 0, none⟩ = some (.bool x) := by
  rcases h with ⟨h0, _⟩ | ⟨g, off, cap, hv, h1, h2, h3, h4, h5, h6⟩
  · rw [h0] at hx; simp at hx
  · simp only [Value.slice.injEq, Option.some.injEq, Addr.mk.injEq, and_true] at hv
    obtain ⟨⟨rfl, rfl⟩, _, rfl⟩ := hv
    exact h5 0 x hx 0 (.bool x) rfl

theorem onI_apart {w : World} {b b' n : Nat} (h : GO bool2 w b (b + 1) (.slice (some ⟨b, 0, none⟩) n n) (onL n)) (h' : GO bool2 w b' (b' + 1) (.slice (some ⟨b', 0, none⟩) 6 6) (List.replicate 6 false)) (hn : 1 ≤ n) : b ≠ b' := by
  intro e
  subst e
  have c1 := go_cell0 h (onL_at (by omega))
  have c2 := go_cell0 h' (x := false) (by simp)
  rw [c1] at c2
  simp at c2

theorem twoI_one {x y : Value} (hx : x.oneCell' = true) (hy : y.oneCell' = true) : ∀ v ∈ [x, y], v.oneCell' = true := by
  intro v hv; simp only [List.mem_cons, List.not_mem_nil, or_false] at hv
  rcases hv with rfl | rfl
  · exact hx
  · exact hy

theorem zeroI_marks : (Try.prog.info? 38).map (fun i => (i.zero, i.size)) = some (some (.agg [zSl, zSl].toArray), 2) := by kernel_rfl

set_option maxHeartbeats 16000000 in
theorem iChartNew_any (w : World) (lo hi : Nat) (v : Value) (c : ChartD) (h : HIc w lo hi v c) (hhi : hi ≤ w.heap.size) (hm : c.many ≤ 1048576) :
    Calls Try.prog 14 #[v] w fun e w' => ∃ v', e = .returned v' ∧ MkO w' w.heap.size w'.heap.size v' (chartNew c) ∧ Below w.heap.size w w' := by
  obtain ⟨q, hq⟩ : ∃ q, chartNew c = q := ⟨_, rfl⟩
  rw [hq]
  have HQ : Hid (chartNew c = q) := hq
  clear hq
  have hZ := (zero_of_info (P := Try.prog) zeroI_marks).1
  obtain ⟨va, vb, rfl, hA, hB⟩ := h
  obtain ⟨ad, cap, rfl, _, _⟩ := hA.shape
  obtain ⟨ad', cap', rfl, _, _⟩ := hB.shape
  have HA : Hid (TR w lo hi (.slice ad c.ts.length cap) c.ts ∧ GR actE w lo hi (.slice ad' c.acts.length cap') c.acts) := ⟨hA, hB⟩
  clear hA hB
  go_enter Try.func14, Try.ntmps14
  go_wp2_with (refine wpList_boxG (vs := chartC c.steps (.slice ad c.ts.length cap) (.slice ad' c.acts.length cap')) rfl _ rfl rfl ?_)
  intro u1 g1 p1 s1
  go_wp2_with (refine wpList_allocG hZ rfl rfl ?_)
  intro u2 g2 q2 s2
  have p2 := p1.below g2 (by omega)
  have G2 := g1.trans (g2.mono (by omega))
  clear g1 g2 p1
  have hc := p2.c
  go_wp2_with (refine wpList_loadG Try.isAgg31 Try.sizeOf31 _ rfl rfl rfl rfl hc ?_)
  clear hc
  refine (iChartOk_any u2 lo hi _ c ⟨_, _, rfl, HA.out.1.under G2 hhi, HA.out.2.under G2 hhi⟩ (by omega) hm).mono ?_
  obtain ⟨r, hr⟩ : ∃ r, chartOk c = r := ⟨_, rfl⟩
  rw [hr]
  rintro e3 u3 ⟨rfl, g3⟩
  have s3 := g3.size
  have p3 := p2.below g3 (by omega)
  have q3 := q2.below g3 (by omega)
  have G3 := G2.trans (g3.mono (by omega))
  clear g3 p2 q2 G2
  cases r
  · have HN : Hid (q = ⟨[], []⟩) := by show q = _; rw [← HQ.out, chartNew_no hr]
    have hrr := q3.run 0 2 (show 0 + 2 ≤ 2 by decide)
    clear hr
    go_wp2_with (refine wpList_storeG Try.sizeOf38 (vs := [zSl, zSl]) _ _ rfl rfl rfl rfl rfl (twoI_one rfl rfl) hrr.1 hrr.2 ?_)
    intro u4 L4
    have s4 := L4.size
    have q4 := L4.var q3
    have G4 := L4.below _ _ (by omega) G3
    clear L4 q3 G3 hrr
    go_wp2
    refine bodyPost_ret (v := .agg [zSl, zSl].toArray) ?_ rfl ⟨_, rfl, by rw [HN.out]; exact mkO_nil _ _ _ (by have := G4.size; omega), G4⟩
    simp [results, Try.results14]
    exact run_loadVarG (P := Try.prog) Try.isAgg38 Try.sizeOf38 rfl q4.c
  · have hcy := chartNew_yes hr
    have hsm := chartOk_small hr
    clear hr
    obtain ⟨n, hn⟩ : ∃ n : Nat, c.steps = (n : Int) := ⟨c.steps.toNat, by omega⟩
    have HN : Hid (q = ⟨onL n, List.replicate 6 false⟩) := by show q = _; rw [← HQ.out, hcy, hn, Int.toNat_natCast]
    clear hcy
    rw [hn] at p3 hsm
    obtain ⟨n1, n6, _, _⟩ := hsm
    have n1' : 1 ≤ n := by omega
    have n6' : n ≤ 6 := by omega
    have hm2 : ∀ w, (Instr.makeSlice 36 (.int .i64 6) (.int .i64 6)).run Try.prog w = .ok (.slice (some ⟨w.heap.size, 0, none⟩) 6 6) (w.alloc (.cells (madeCells #[Value.bool false] 6) 4)) := run_makeB 6 (by omega)
    have HP3 : Hid (VarG u3 w.heap.size (chartC (n : Int) (.slice ad c.ts.length cap) (.slice ad' c.acts.length cap'))) := p3
    clear p3 hn
    go_wp2_with fail
    refine wp_region_last (R := Grow) (Φ := fun i v u => match i with
        | 0 => ∃ lo' hi', hi' ≤ u.heap.size ∧ SI u lo' hi' v [0]
        | 1 => v = .int .u8 ((bitsN [0] : Nat) : Int)
        | 2 => v = .pointer (some ⟨w.heap.size, 0, none⟩)
        | 3 => v = .int .i64 (n : Int)
        | 4 => ∃ b, u3.heap.size ≤ b ∧ b < u.heap.size ∧ v = .slice (some ⟨b, 0, none⟩) n n ∧ GO bool2 u b (b + 1) v (onL n)
        | 5 => ∃ b, u3.heap.size ≤ b ∧ b < u.heap.size ∧ v = .slice (some ⟨b, 0, none⟩) 6 6 ∧ GO bool2 u b (b + 1) v (List.replicate 6 false)
        | 6 => ∃ b b', (u3.heap.size ≤ b ∧ b < u.heap.size) ∧ (u3.heap.size ≤ b' ∧ b' < u.heap.size) ∧ v = .agg #[.slice (some ⟨b, 0, none⟩) n n, .slice (some ⟨b', 0, none⟩) 6 6] ∧ GO bool2 u b (b + 1) (.slice (some ⟨b, 0, none⟩) n n) (onL n) ∧ GO bool2 u b' (b' + 1) (.slice (some ⟨b', 0, none⟩) 6 6) (List.replicate 6 false)
        | _ => True)
      (J := fun L a u => True) 7 _ rfl rfl (by kernel_rfl) (by kernel_rfl) (by kernel_rfl) (by kernel_rfl) (Below.refl _ _) grow_trans ?_ trivial ?_ ?_
    · intro i v u u' hr
      match i with
      | 0 => exact fun ⟨lo', hi', h1, h2⟩ => ⟨lo', hi', Nat.le_trans h1 hr.size, h2.below hr h1⟩
      | 1 | 2 | 3 | _ + 7 => exact fun h => h
      | 4 => exact fun ⟨b, h1, h2, h3, h4⟩ => ⟨b, h1, Nat.lt_of_lt_of_le h2 hr.size, h3, h4.under hr h2⟩
      | 5 => exact fun ⟨b, h1, h2, h3, h4⟩ => ⟨b, h1, Nat.lt_of_lt_of_le h2 hr.size, h3, h4.under hr h2⟩
      | 6 => exact fun ⟨b, b', h1, h2, h3, h4, h5⟩ => ⟨b, b', ⟨h1.1, Nat.lt_of_lt_of_le h1.2 hr.size⟩, ⟨h2.1, Nat.lt_of_lt_of_le h2.2 hr.size⟩, h3, h4.under hr h1.2, h5.under hr h2.2⟩
    · intro i o ho hin L a u hf hR0 hLs hLi hp he hJ K' hK
      have hR : Grow u3 u := (Below.drew (Below.refl _ _)).trans hR0
      have hsz' : a.tmps.size = 14 := hf.size
      have hus := hR.size
      rcases i with _ | _ | _ | _ | _ | _ | _ | i
      · obtain rfl := Option.some.inj ho
        clear hp he
        go_simp
        exact hK _ _ ((Below.refl _ _).alloc (Nat.le_refl _) _) ⟨u.heap.size, u.heap.size + 1, by simp, by
          show SI _ _ _ ((a.put (some 7) _).tmps.getD 7 undef) _
          rw [getD_put_self a 7 _ (by show _ < a.tmps.size; omega)]
          exact si_one u 0 _⟩ trivial
      · obtain rfl := Option.some.inj ho
        obtain ⟨lo', hi', hh, hs⟩ := hp 0 _ rfl (he _ (Array.mem_of_getElem? (i := 0) rfl) (by kernel_rfl))
        have hs : SI u lo' hi' (a.tmps.getD 7 undef) [0] := hs
        obtain ⟨vv, hvv⟩ : ∃ vv, a.tmps.getD 7 undef = vv := ⟨_, rfl⟩
        rw [hvv] at hs
        clear hp he
        go_simp
        refine (bitsAt_any u lo' hi' _ [0] hs hh (fun x hx => by simp at hx; subst hx; omega)).mono ?_
        rintro e1 u' ⟨rfl, hbu⟩
        exact hK _ _ hbu (getD_put_self a 8 _ (by show _ < a.tmps.size; omega)) trivial
      · obtain rfl := Option.some.inj ho
        have q1 : a.tmps.getD 1 undef = .pointer (some ⟨w.heap.size, 0, none⟩) := hf.at_ 1 (by kernel_rfl)
        clear hp he
        go_simp
        exact hK _ _ (Below.refl _ _) (getD_put_self a 9 _ (by show _ < a.tmps.size; omega)) trivial
      · obtain rfl := Option.some.inj ho
        have q9 : a.tmps.getD 9 undef = .pointer (some ⟨w.heap.size, 0, none⟩) := hp 2 _ rfl (he _ (Array.mem_of_getElem? (i := 0) rfl) (by kernel_rfl))
        clear hp he
        have c0 : u.cell? ⟨w.heap.size, 0, none⟩ = some (.int .i64 (n : Int)) := (HP3.out.below hR (by omega)).c 0 _ rfl
        go_simp
        exact hK _ _ (Below.refl _ _) (getD_put_self a 10 _ (by show _ < a.tmps.size; omega)) trivial
      · obtain rfl := Option.some.inj ho
        have q8 : a.tmps.getD 8 undef = .int .u8 ((bitsN [0] : Nat) : Int) := hp 1 _ rfl (he _ (Array.mem_of_getElem? (i := 0) rfl) (by kernel_rfl))
        have q10 : a.tmps.getD 10 undef = .int .i64 (n : Int) := hp 3 _ rfl (he _ (Array.mem_of_getElem? (i := 1) rfl) (by kernel_rfl))
        have hl := listB_any u (bitsN [0]) n (by decide) n6'
        rw [show listB (bitsN [0]) n = onL n from listB_one n n6'] at hl
        obtain ⟨bn, hbn⟩ : ∃ bn, bitsN [0] = bn := ⟨_, rfl⟩
        rw [hbn] at q8 hl
        clear hp he
        go_simp
        refine hl.mono ?_
        rintro e1 u' ⟨g, rfl, h1, h2, h3, hbu⟩
        exact hK _ _ hbu ⟨g, by omega, h2, getD_put_self a 11 _ (by show _ < a.tmps.size; omega), by
          show GO _ _ _ _ ((a.put (some 11) _).tmps.getD 11 undef) _
          rw [getD_put_self a 11 _ (by show _ < a.tmps.size; omega)]; exact h3⟩ trivial
      · obtain rfl := Option.some.inj ho
        clear hp he
        go_simp
        exact hK _ _ ((Below.refl _ _).alloc (Nat.le_refl _) _) ⟨u.heap.size, by omega, by simp, getD_put_self a 12 _ (by show _ < a.tmps.size; omega), by
          show GO _ _ _ _ ((a.put (some 12) _).tmps.getD 12 undef) _
          rw [getD_put_self a 12 _ (by show _ < a.tmps.size; omega)]; exact made_go u 6 _ (by omega)⟩ trivial
      · obtain rfl := Option.some.inj ho
        obtain ⟨b, h1, h2, q11, h4⟩ := hp 4 _ rfl (he _ (Array.mem_of_getElem? (i := 0) rfl) (by kernel_rfl))
        obtain ⟨b', h1', h2', q12, h4'⟩ := hp 5 _ rfl (he _ (Array.mem_of_getElem? (i := 1) rfl) (by kernel_rfl))
        have q11 : a.tmps.getD 11 undef = .slice (some ⟨b, 0, none⟩) n n := q11
        have q12 : a.tmps.getD 12 undef = .slice (some ⟨b', 0, none⟩) 6 6 := q12
        have h4 : GO bool2 u b (b + 1) (a.tmps.getD 11 undef) (onL n) := h4
        have h4' : GO bool2 u b' (b' + 1) (a.tmps.getD 12 undef) (List.replicate 6 false) := h4'
        rw [q11] at h4
        rw [q12] at h4'
        have HH : Hid (GO bool2 u b (b + 1) (.slice (some ⟨b, 0, none⟩) n n) (onL n) ∧ GO bool2 u b' (b' + 1) (.slice (some ⟨b', 0, none⟩) 6 6) (List.replicate 6 false)) := ⟨h4, h4'⟩
        have r11 : a.tmps[11]?.getD undef = .slice (some ⟨b, 0, none⟩) n n := by rw [← Array.getD_eq_getD_getElem?]; exact q11
        have r12 : a.tmps[12]?.getD undef = .slice (some ⟨b', 0, none⟩) 6 6 := by rw [← Array.getD_eq_getD_getElem?]; exact q12
        have HSZ : Hid (a.tmps.size = 14) := hsz'
        clear hp he h4 h4' hsz' q11 q12
        go_simp
        have hsz' := HSZ.out
        exact hK _ _ (Below.refl _ _) ⟨b, b', ⟨h1, h2⟩, ⟨h1', h2'⟩, getD_put_self a 13 _ (by show _ < a.tmps.size; omega), HH.out.1, HH.out.2⟩ trivial
      · omega
    · intro L a u hf hR0 hp hJ K' hK
      have hR : Grow u3 u := (Below.drew (Below.refl _ _)).trans hR0
      have hsz' : a.tmps.size = 14 := hf.size
      have hus := hR.size
      obtain ⟨_, b, b', ⟨h1, h2⟩, ⟨h1', h2'⟩, q13, h4, h5⟩ := hp 6 _ (by omega) rfl
      have q13 : a.tmps.getD 13 undef = .agg #[.slice (some ⟨b, 0, none⟩) n n, .slice (some ⟨b', 0, none⟩) 6 6] := q13
      have m2 : a.tmps.getD 2 undef = .pointer (some ⟨w.heap.size + 1, 0, none⟩) := hf.at_ 2 (by kernel_rfl)
      have hne := onI_apart h4 h5 n1'
      have qv := q3.below hR (by omega)
      have hrr := qv.run 0 2 (show 0 + 2 ≤ 2 by decide)
      refine wantedG rfl (wp_storeG Try.sizeOf38 (vs := [.slice (some ⟨b, 0, none⟩) n n, .slice (some ⟨b', 0, none⟩) 6 6]) _ _ rfl (B := w.heap.size + 1) (x := 0) m2 q13 rfl (twoI_one rfl rfl) hrr.1 hrr.2 ?_)
      intro u4 L4
      refine hK _ _ ?_
      have s4 := L4.size
      have q4 := L4.var qv
      have A4 := h4.kept (fun k r1 r2 => L4.block k (by omega))
      have B4 := h5.kept (fun k r1 r2 => L4.block k (by omega))
      have G4 := L4.below _ _ (by omega) (G3.trans (hR.mono (by omega)))
      have HO4 : Hid (MkO u4 w.heap.size u4.heap.size (.agg #[.slice (some ⟨b, 0, none⟩) n n, .slice (some ⟨b', 0, none⟩) 6 6]) q) := by
        show MkO _ _ _ _ q
        rw [HN.out]
        exact ⟨_, _, _, _, _, _, rfl, A4, B4, ⟨by omega, by omega⟩, ⟨by omega, by omega⟩, by omega⟩
      have md : a.defers = [] := hf.defers
      obtain ⟨f, ea, hfv⟩ := act_lit a 14 hf.size
      rw [← hfv] at m2
      rw [md] at ea
      simp only [List.range, List.range.loop, List.map_cons, List.map_nil, m2] at ea
      subst ea
      clear hfv hf md hp hR0 L4 hrr qv h4 h5 A4 B4 hne q13
      go_wp2
      refine bodyPost_ret (v := .agg [Value.slice (some ⟨b, 0, none⟩) n n, .slice (some ⟨b', 0, none⟩) 6 6].toArray) ?_ rfl ⟨_, rfl, HO4.out, G4⟩
      simp [results, Try.results14]
      exact run_loadVarG (P := Try.prog) Try.isAgg38 Try.sizeOf38 rfl q4.c
end Go.Proofs.Ytokphdpaghkakaa
