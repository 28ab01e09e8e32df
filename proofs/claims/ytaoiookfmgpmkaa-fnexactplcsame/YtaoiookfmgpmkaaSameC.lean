/-
  StmtsSame of the program: a list of pairs, a map of those that were taken up.
-/
import Derived.Test.YtaoiookfmgpmkaaSameB
namespace Go.Proofs.Ytaoiookfmgpmkaa
open Go.ChangeShapes Go.WideShapes Go.ChangeAt Go.RowKit
set_option linter.unusedVariables false
set_option maxRecDepth 100000

/-- What holds ahead of a round: ps are still to be held against each other. -/
structure SameI (w : World) (Q : Prop) (lo hi : Nat) (wr : World) (g cap : Nat) (ps : List ItemT) : Prop where
  below : Below w.heap.size w wr
  own : wr.ownsRow (w.heap.size + 1) 126 2 (.slice (some ⟨g, 0, none⟩) ps.length cap) ps.length (rowQ ps)
  map : ∃ es clock, wr.heap[w.heap.size]? = some (.map es clock) ∧ ∀ x ∈ es.toList, ∃ b' off' q' n', x.key = keyV ⟨b', off', none⟩ q' n' ∧ RowAt w b' off' ∧ b' < w.heap.size ∧ ∀ p ∈ ps, b' < p.l ∨ p.h ≤ b'
  items : ∀ p ∈ ps, ItemTOk w lo hi p
  dis : ps.Pairwise DisT
  iff : Q ↔ ∀ p ∈ ps, p.a = p.b

theorem SameI.row {w : World} {Q : Prop} {lo hi : Nat} {wr : World} {g cap : Nat} {ps : List ItemT} (h : SameI w Q lo hi wr g cap ps) : w.heap.size + 1 ≤ g ∧ g < wr.heap.size ∧ ps.length ≤ cap ∧ cap ≤ maxLen := by
  rcases h.own.2 with ⟨h0, _⟩ | ⟨g', cap', cur, hv, hb, hg, h1, h2, _⟩
  · cases h0
  · cases hv
    exact ⟨hb, (Array.getElem?_eq_some_iff.mp hg).1, h1, h2⟩

theorem SameI.last {w : World} {Q : Prop} {lo hi : Nat} {wr : World} {g cap : Nat} {qs : List ItemT} {p : ItemT} (h : SameI w Q lo hi wr g cap (qs ++ [p])) (i : Nat) (hi : i < 2) : wr.cell? ⟨g, qs.length * 2 + i, none⟩ = p.cells[i]? := by
  rw [h.own.cellAt _ (by simp; omega), rowQ_last qs p i hi]

theorem SameI.under {w : World} {Q : Prop} {lo hi : Nat} {wr u : World} {g cap : Nat} {ps : List ItemT} (h : SameI w Q lo hi wr g cap ps) (hb : Below wr.heap.size wr u) : SameI w Q lo hi u g cap ps := by
  obtain ⟨h1, h2, h3, h4, h5, h6⟩ := h
  have hr := (SameI.row ⟨h1, h2, h3, h4, h5, h6⟩)
  obtain ⟨es, clock, hm, hes⟩ := h3
  exact ⟨h1.trans (hb.mono h1.size), own_kept h2 fun g' hg => hb.block g' (by cases hg; exact hr.2.1), ⟨es, clock, by rw [hb.block _ (by omega)]; exact hm, hes⟩, h4, h5, h6⟩

theorem SameI.popOwn {w : World} {Q : Prop} {lo hi : Nat} {wr : World} {g cap : Nat} {qs : List ItemT} {p : ItemT} (h : SameI w Q lo hi wr g cap (qs ++ [p])) : wr.ownsRow (w.heap.size + 1) 126 2 (.slice (some ⟨g, 0, none⟩) qs.length cap) qs.length (rowQ qs) := by
  have h2 := h.own
  rw [List.length_append, List.length_cons, List.length_nil, rowQ_snoc] at h2
  exact ownsRow_pop (rowQ_length qs) h2

/-- The last pair is taken off. -/
theorem SameI.pop {w : World} {Q Q' : Prop} {lo hi : Nat} {wr : World} {g cap : Nat} {qs : List ItemT} {p : ItemT} (h : SameI w Q lo hi wr g cap (qs ++ [p])) (hq : Q' ↔ ∀ x ∈ qs, x.a = x.b) : SameI w Q' lo hi wr g cap qs := by
  have ho := h.popOwn
  obtain ⟨h1, h2, ⟨es, clock, hm, hes⟩, h4, h5, h6⟩ := h
  exact ⟨h1, ho, ⟨es, clock, hm, fun x hx => by
    obtain ⟨b', off', q', n', e1, e2, e3, e4⟩ := hes x hx
    exact ⟨b', off', q', n', e1, e2, e3, fun y hy => e4 y (List.mem_append_left _ hy)⟩⟩, fun y hy => h4 y (List.mem_append_left _ hy), (List.pairwise_append.1 h5).1, hq⟩

/-- Two values in one block. -/
structure PairV (u : World) (V : Nat) (x y : Value) : Prop where
  c0 : u.cell? ⟨V, 0, none⟩ = some x
  c1 : u.cell? ⟨V, 1, none⟩ = some y

theorem pairV_new (u : World) (x y : Value) (t : TypeId) : PairV (u.alloc (.cells #[x, y] t)) u.heap.size x y := ⟨World.cell?_alloc_new _ _ _ _, World.cell?_alloc_new _ _ _ _⟩
theorem PairV.at_ {u u' : World} {V : Nat} {x y : Value} (h : PairV u V x y) (hk : u'.heap[V]? = u.heap[V]?) : PairV u' V x y :=
  ⟨by rw [World.cell?_of_block (w := u) hk]; exact h.c0, by rw [World.cell?_of_block (w := u) hk]; exact h.c1⟩

/-- What holds as the pairs of what is within are laid behind the others: ps are laid. -/
structure SameN (w w5 : World) (V : Nat) (ps : List ItemT) (wr : World) (g cap : Nat) : Prop where
  below : Below w.heap.size w wr
  own : wr.ownsRow (w.heap.size + 1) 126 2 (.slice (some ⟨g, 0, none⟩) ps.length cap) ps.length (rowQ ps)
  mapb : wr.heap[w.heap.size]? = w5.heap[w.heap.size]?
  varb : wr.heap[V]? = w5.heap[V]?
  ne : g ≠ V
  size : w5.heap.size ≤ wr.heap.size

theorem SameN.row {w w5 : World} {V : Nat} {ps : List ItemT} {wr : World} {g cap : Nat} (h : SameN w w5 V ps wr g cap) : w.heap.size + 1 ≤ g ∧ g < wr.heap.size ∧ ps.length ≤ cap ∧ cap ≤ maxLen := by
  rcases h.own.2 with ⟨h0, _⟩ | ⟨g', cap', cur, hv, hb, hg, h1, h2, _⟩
  · cases h0
  · cases hv
    exact ⟨hb, (Array.getElem?_eq_some_iff.mp hg).1, h1, h2⟩

theorem SameN.next {w w5 : World} {V : Nat} {qs : List ItemT} {f : Nat → ItemT × ItemT} {j : Nat} {wr u u' : World} {g cap m : Nat} (h : SameN w w5 V (qs ++ kidsT f j) wr g cap) {g' c' : Nat} (hm : (qs ++ kidsT f j).length = m) (hV : V < w5.heap.size) (hb : Below wr.heap.size wr u) (hg : u.grownBy u' (Value.slice (some ⟨g, 0, none⟩) m cap).ownBlock)
    (hown : u'.ownsRow (w.heap.size + 1) 126 2 (.slice (some ⟨g', 0, none⟩) (m + 2) c') (m + 2) (rowQ (qs ++ kidsT f j) ++ rowQ [(f j).1, (f j).2])) (hg' : g' = g ∨ wr.heap.size ≤ g') : SameN w w5 V (qs ++ kidsT f (j + 1)) u' g' c' := by
  have hr := h.row
  have hs := hb.size
  have hz := h.size
  have hbs := h.below.size
  have hgb := (Below.refl 0 u).grown hg (Nat.zero_le _) (fun _ _ => Nat.zero_le _)
  have hgs := hg.size
  have hne := h.ne
  have hk : ∀ k, k < wr.heap.size → k ≠ g → u'.heap[k]? = wr.heap[k]? := fun k h1 h2 => by
    rw [hg.block k (by omega) (by simp [Value.ownBlock]; exact h2)]; exact hb.block k h1
  refine ⟨⟨hgb.os.trans (hb.os.trans h.below.os), hgb.tape.trans (hb.tape.trans h.below.tape), hgb.output.trans (hb.output.trans h.below.output), by omega, fun q hq => ?_⟩, ?_, ?_, ?_, ?_, by omega⟩
  · rw [hk q (by omega) (by omega)]; exact h.below.block q hq
  · rw [kidsT, ← List.append_assoc, List.length_append, hm, rowQ_append]; exact hown
  · rw [hk _ (by omega) (by omega)]; exact h.mapb
  · rw [hk _ (by omega) (by omega)]; exact h.varb
  · omega

theorem snoc_casesT (ps : List ItemT) : ps = [] ∨ ∃ qs p, ps = qs ++ [p] := by
  rcases List.eq_nil_or_concat ps with h | ⟨qs, p, h⟩
  · exact .inl h
  · exact .inr ⟨qs, p, by simpa using h⟩

set_option maxHeartbeats 16000000 in
theorem iStmtsSame_any (w : World) (lo hi lo' hi' : Nat) (va vb : Value) (a b : List StmtD) (ka : SO w lo hi va a) (kb : SR w lo' hi' vb b) (hhi : hi ≤ w.heap.size) (hhi' : hi' ≤ w.heap.size) (hna : sizeL a ≤ 1048576) (hnb : sizeL b ≤ 1048576) :
    Calls Try.prog 27 #[va, vb] w fun e w' => ∃ r : Bool, e = .returned (.bool r) ∧ (r = true ↔ a = b) ∧ Below w.heap.size w w' := by
  obtain ⟨ads, cps, rfl, _, _⟩ := ka.sr.shape
  obtain ⟨adt, cpt, rfl, _, _⟩ := kb.shape
  have hcn := cnt_le a
  obtain ⟨u0, hu0, hI⟩ : ∃ u0, (w.alloc (.map #[] 0)).alloc (.cells #[.slice ads a.length cps, .slice adt b.length cpt] 126) = u0 ∧
      SameI w (a = b) lo' hi' u0 (w.heap.size + 1) 1 [⟨a, .slice ads a.length cps, b, .slice adt b.length cpt, lo, hi⟩] := by
    refine ⟨_, rfl, ⟨((Below.refl w.heap.size w).alloc (Nat.le_refl _) _).alloc (by simp) _, ⟨rfl, .inr ⟨_, 1, #[.slice ads a.length cps, .slice adt b.length cpt], rfl, Nat.le_refl _, ?_, Nat.le_refl _, by unfold maxLen; omega, rfl, rfl⟩⟩, ⟨#[], 0, ?_, fun x hx => by simp at hx⟩, ?_, List.pairwise_singleton _ _, ?_⟩⟩
    · have := heap_alloc_new (w.alloc (.map #[] 0)) (.cells #[.slice ads a.length cps, .slice adt b.length cpt] 126)
      simpa using this
    · have h1 := heap_alloc_new w (.map #[] 0)
      rw [((Below.refl _ _).alloc (Nat.le_refl _) _).block w.heap.size (by simp)]
      exact h1
    · intro p hp
      simp at hp
      subst hp
      exact ⟨ka, hhi, kb, hna, hnb⟩
    · simp
  have HU : Hid (_ = u0) := hu0
  have HII : Hid (SameI w (a = b) lo' hi' u0 (w.heap.size + 1) 1 [⟨a, .slice ads a.length cps, b, .slice adt b.length cpt, lo, hi⟩]) := hI
  clear hu0 hI ka kb
  have hmm := @run_makeMap Try.prog
  obtain ⟨i0, hi0, hz0, hz1, hz2⟩ : ∃ i, Try.prog.info? 126 = some i ∧ i.zero = some (.agg #[.slice none 0 0, .slice none 0 0]) ∧ i.size = 2 ∧ i.bytes = 48 := info_parts (by kernel_rfl)
  go_enter Try.func27, Try.ntmps27
  go_wp2_with fail
  rw [HU.out]
  clear HU
  go_loopg [6] (1 + 2 * cntL a) (fun gk v wr => ∃ g cap ps, v = .slice (some ⟨g, 0, none⟩) ps.length cap ∧ sumQ ps ≤ gk ∧ gk ≤ 2097153 ∧ Hid (SameI w (a = b) lo' hi' wr g cap ps))
  case atStart => exact ⟨_, 1, _, rfl, by simp [sumQ], by omega, HII.out⟩
  case round =>
    clear HII
    obtain ⟨g, cap, ps, rfl, hsum, hgk, HI⟩ := hrel
    have hlen := length_le_sumQ ps
    rcases snoc_casesT ps with rfl | ⟨qs, p, rfl⟩
    · have HB : Hid (Below w.heap.size w wr) := HI.out.below
      have HE : Hid (a = b) := HI.out.iff.2 fun p hp => by simp at hp
      go_wp2
      go_ret
      exact ⟨true, rfl, ⟨fun _ => HE.out, fun _ => rfl⟩, HB.out⟩
    have hok := HI.out.items p (by simp)
    obtain ⟨ada, capa, hps, hsz1, hsz2⟩ := hok.ka.sr.shape
    obtain ⟨adb, capb, hpt, hsz3, hsz4⟩ := hok.kb.shape
    have hka := length_le_sizeL p.a
    have hkb := length_le_sizeL p.b
    have hna' := hok.na
    have hnb' := hok.nb
    have hrow := HI.out.row
    rw [show (qs ++ [p]).length = qs.length + 1 by simp] at hrow hlen
    have hq1 : ((qs ++ [p]).length : Int) = (qs.length : Int) + 1 := by simp
    have hq2 : (qs ++ [p]).length = qs.length + 1 := by simp
    have e0 := HI.out.last 0 (by omega)
    have e1 := HI.out.last 1 (by omega)
    simp only [ItemT.cells, hps, hpt, List.getElem?_cons_succ, List.getElem?_cons_zero, Nat.add_zero] at e0 e1
    have HPS : Hid (p.s = .slice ada p.a.length capa ∧ p.t = .slice adb p.b.length capb) := ⟨hps, hpt⟩
    have HOK : Hid (ItemTOk w lo' hi' p) := hok
    have hql : qs.length ≤ 2097153 := by omega
    have hqc : qs.length + 1 ≤ cap := hrow.2.2.1
    have hcm : cap ≤ 9223372036854775807 := by have := hrow.2.2.2; unfold maxLen at this; omega
    have hsq : sumQ qs + (1 + 2 * cntL p.a) ≤ gk := by rw [sumQ_append] at hsum; simp [sumQ] at hsum; omega
    have hbw := HI.out.below.size
    clear hps hpt hok hsum hsz1 hsz2 hsz3 hsz4
    by_cases hl : p.a.length = p.b.length
    case neg =>
      have hl2 : ((p.a.length : Int) != (p.b.length : Int)) = true := by simp; omega
      have HB : Hid (∀ o, Below w.heap.size w (wr.alloc o)) := fun o => HI.out.below.alloc hbw o
      have HN : Hid (¬ a = b) := fun e => by
        have := HI.out.iff.1 e p (by simp)
        exact hl (by rw [this])
      clear HI hl
      go_wp2
      go_ret
      exact ⟨false, rfl, ⟨(fun h => by cases h), fun h => absurd h HN.out⟩, HB.out _⟩
    have hl2 : ((p.a.length : Int) != (p.b.length : Int)) = false := by simp; omega
    by_cases hk0 : p.a.length = 0
    · have hk0' : ((p.a.length : Int) == 0) = true := by simp [hk0]
      have HP : Hid (∀ o, SameI w (a = b) lo' hi' (wr.alloc o) g cap qs) := fun o => (HI.out.under ((Below.refl _ _).alloc (Nat.le_refl _) o)).pop (by
        rw [HI.out.iff]
        constructor
        · exact fun h x hx => h x (List.mem_append_left _ hx)
        · intro h x hx
          rcases List.mem_append.1 hx with hx | hx
          · exact h x hx
          · rw [List.mem_singleton] at hx
            subst hx
            have e1 := List.eq_nil_of_length_eq_zero hk0
            have e2 := List.eq_nil_of_length_eq_zero (hl ▸ hk0)
            rw [e1, e2])
      have HK0 : Hid (p.a.length = 0) := hk0
      have HL : Hid (p.a.length = p.b.length) := hl
      clear HI hk0 hl
      go_wp2
      go_roundg (sumQ qs)
      case measure => omega
      case rel => exact ⟨g, cap, qs, rfl, Nat.le_refl _, by omega, HP.out _⟩
    have hk0' : ((p.a.length : Int) == 0) = false := by rw [beq_eq_false_iff_ne]; omega
    obtain ⟨b1, off1, cap1, b2, off2, cap2, kf, hks⟩ := kid_itemsT HOK.out hl (by omega)
    have es := hks.sa
    have et := hks.sb
    rw [HPS.out.1] at es
    rw [HPS.out.2] at et
    simp only [Value.slice.injEq, true_and] at es et
    obtain ⟨rfl, rfl⟩ := es
    obtain ⟨rfl, rfl⟩ := et
    have HKS : Hid (KidT w lo' hi' p b1 off1 capa b2 off2 capb kf) := hks
    have HL : Hid (p.a.length = p.b.length) := hl
    have hpos : (0 : Int) < (p.a.length : Int) := by omega
    have hposb : (0 : Int) < (p.b.length : Int) := by omega
    have hposn : 0 < p.a.length := by omega
    have hposbn : 0 < p.b.length := by omega
    clear hks hl hk0
    go_wp2_with fail
    obtain ⟨w2, hw2, g12, HT2, hs2⟩ : ∃ w2, wr.alloc (.cells #[.slice (some ⟨b1, off1, none⟩) p.a.length capa, .slice (some ⟨b2, off2, none⟩) p.b.length capb] 126) = w2 ∧ Below wr.heap.size wr w2 ∧ Hid (PairV w2 wr.heap.size (.slice (some ⟨b1, off1, none⟩) p.a.length capa) (.slice (some ⟨b2, off2, none⟩) p.b.length capb)) ∧ w2.heap.size = wr.heap.size + 1 :=
      ⟨_, rfl, (Below.refl _ _).alloc (Nat.le_refl _) _, pairV_new _ _ _ _, by simp⟩
    rw [hw2]
    have HI2 : Hid (SameI w (a = b) lo' hi' w2 g cap (qs ++ [p])) := HI.out.under g12
    clear hw2 HI g12 e0 e1
    refine wp_region_last (R := Grow) (Φ := fun i v u => match i with
        | 0 => v = .pointer (some ⟨wr.heap.size, 0, none⟩)
        | 1 => v = .slice (some ⟨b1, off1, none⟩) p.a.length capa
        | 2 => v = .pointer (some ⟨b1, off1, none⟩)
        | 3 => v = .pointer (some ⟨wr.heap.size, 1, none⟩)
        | 4 => v = .slice (some ⟨b2, off2, none⟩) p.b.length capb
        | 5 => v = .pointer (some ⟨b2, off2, none⟩)
        | 6 => v = .pointer (some ⟨wr.heap.size, 0, none⟩)
        | 7 => v = .slice (some ⟨b1, off1, none⟩) p.a.length capa
        | 8 => v = .int .i64 p.a.length
        | 9 => v = .agg #[.pointer (some ⟨b1, off1, none⟩), .pointer (some ⟨b2, off2, none⟩), .int .i64 p.a.length]
        | 10 => ∃ B, v = .pointer (some ⟨B, 0, none⟩) ∧ w2.heap.size ≤ B ∧ B < u.heap.size ∧ Three u B (.pointer none) (.pointer none) (.int .i64 0)
        | _ => True)
      (J := fun L a u => True) 11 _ rfl rfl (by kernel_rfl) (by kernel_rfl) (by kernel_rfl) (by kernel_rfl) (Below.refl _ _) grow_trans ?_ trivial ?_ ?_
    · intro i v u u' hr
      match i with
      | 0 | 1 | 2 | 3 | 4 | 5 | 6 | 7 | 8 | 9 | _ + 11 => exact fun h => h
      | 10 => exact fun ⟨B, h1, h2, h3, h4⟩ => ⟨B, h1, h2, by have := hr.size; omega, h4.at_ (hr.block B h3)⟩
    · intro i o ho hin L ac u hf hR0 hLs hLi hp he hJ K' hK
      have hR : Grow w2 u := (Below.drew (Below.refl _ _)).trans hR0
      have hsz' : ac.tmps.size = 95 := hf.size
      have hus := hR.size
      rcases i with _ | _ | _ | _ | _ | _ | _ | _ | _ | _ | _ | i
      · obtain rfl := Option.some.inj ho
        have q7 : ac.tmps.getD 7 undef = .pointer (some ⟨wr.heap.size, 0, none⟩) := hf.at_ 7 (by kernel_rfl)
        clear hp he
        go_simp
        exact hK _ _ (Below.refl _ _) (getD_put_self ac 44 _ (by show _ < ac.tmps.size; omega)) trivial
      · obtain rfl := Option.some.inj ho
        have q44 : ac.tmps.getD 44 undef = .pointer (some ⟨wr.heap.size, 0, none⟩) := hp 0 _ rfl (he _ (Array.mem_of_getElem? (i := 0) rfl) (by kernel_rfl))
        clear hp he
        have cc := (HT2.out.at_ (hR.block wr.heap.size (by omega))).c0
        go_simp
        exact hK _ _ (Below.refl _ _) (getD_put_self ac 45 _ (by show _ < ac.tmps.size; omega)) trivial
      · obtain rfl := Option.some.inj ho
        have q45 : ac.tmps.getD 45 undef = .slice (some ⟨b1, off1, none⟩) p.a.length capa := hp 1 _ rfl (he _ (Array.mem_of_getElem? (i := 0) rfl) (by kernel_rfl))
        clear hp he
        go_simp
        exact hK _ _ (Below.refl _ _) (getD_put_self ac 46 _ (by show _ < ac.tmps.size; omega)) trivial
      · obtain rfl := Option.some.inj ho
        have q7 : ac.tmps.getD 7 undef = .pointer (some ⟨wr.heap.size, 0, none⟩) := hf.at_ 7 (by kernel_rfl)
        clear hp he
        go_simp
        exact hK _ _ (Below.refl _ _) (getD_put_self ac 47 _ (by show _ < ac.tmps.size; omega)) trivial
      · obtain rfl := Option.some.inj ho
        have q47 : ac.tmps.getD 47 undef = .pointer (some ⟨wr.heap.size, 1, none⟩) := hp 3 _ rfl (he _ (Array.mem_of_getElem? (i := 0) rfl) (by kernel_rfl))
        clear hp he
        have cc := (HT2.out.at_ (hR.block wr.heap.size (by omega))).c1
        go_simp
        exact hK _ _ (Below.refl _ _) (getD_put_self ac 48 _ (by show _ < ac.tmps.size; omega)) trivial
      · obtain rfl := Option.some.inj ho
        have q48 : ac.tmps.getD 48 undef = .slice (some ⟨b2, off2, none⟩) p.b.length capb := hp 4 _ rfl (he _ (Array.mem_of_getElem? (i := 0) rfl) (by kernel_rfl))
        clear hp he
        go_simp
        exact hK _ _ (Below.refl _ _) (getD_put_self ac 49 _ (by show _ < ac.tmps.size; omega)) trivial
      · obtain rfl := Option.some.inj ho
        have q7 : ac.tmps.getD 7 undef = .pointer (some ⟨wr.heap.size, 0, none⟩) := hf.at_ 7 (by kernel_rfl)
        clear hp he
        go_simp
        exact hK _ _ (Below.refl _ _) (getD_put_self ac 50 _ (by show _ < ac.tmps.size; omega)) trivial
      · obtain rfl := Option.some.inj ho
        have q50 : ac.tmps.getD 50 undef = .pointer (some ⟨wr.heap.size, 0, none⟩) := hp 6 _ rfl (he _ (Array.mem_of_getElem? (i := 0) rfl) (by kernel_rfl))
        clear hp he
        have cc := (HT2.out.at_ (hR.block wr.heap.size (by omega))).c0
        go_simp
        exact hK _ _ (Below.refl _ _) (getD_put_self ac 51 _ (by show _ < ac.tmps.size; omega)) trivial
      · obtain rfl := Option.some.inj ho
        have q51 : ac.tmps.getD 51 undef = .slice (some ⟨b1, off1, none⟩) p.a.length capa := hp 7 _ rfl (he _ (Array.mem_of_getElem? (i := 0) rfl) (by kernel_rfl))
        clear hp he
        go_simp
        exact hK _ _ (Below.refl _ _) (getD_put_self ac 52 _ (by show _ < ac.tmps.size; omega)) trivial
      · obtain rfl := Option.some.inj ho
        have q46 : ac.tmps.getD 46 undef = .pointer (some ⟨b1, off1, none⟩) := hp 2 _ rfl (he _ (Array.mem_of_getElem? (i := 0) rfl) (by kernel_rfl))
        have q49 : ac.tmps.getD 49 undef = .pointer (some ⟨b2, off2, none⟩) := hp 5 _ rfl (he _ (Array.mem_of_getElem? (i := 1) rfl) (by kernel_rfl))
        have q52 : ac.tmps.getD 52 undef = .int .i64 p.a.length := hp 8 _ rfl (he _ (Array.mem_of_getElem? (i := 2) rfl) (by kernel_rfl))
        have q46b : ac.tmps[46]?.getD undef = .pointer (some ⟨b1, off1, none⟩) := by rw [← q46]; exact (Array.getD_eq_getD_getElem? ..).symm
        have q49b : ac.tmps[49]?.getD undef = .pointer (some ⟨b2, off2, none⟩) := by rw [← q49]; exact (Array.getD_eq_getD_getElem? ..).symm
        have q52b : ac.tmps[52]?.getD undef = .int .i64 p.a.length := by rw [← q52]; exact (Array.getD_eq_getD_getElem? ..).symm
        have HZ : Hid (ac.tmps.size = 95) := hsz'
        clear hsz' q46 q49 q52
        clear hp he
        go_simp
        have hsz' := HZ.out
        exact hK _ _ (Below.refl _ _) (getD_put_self ac 53 _ (by show _ < ac.tmps.size; omega)) trivial
      · obtain rfl := Option.some.inj ho
        clear hp he
        go_simp
        exact hK _ _ ((Below.refl _ _).alloc (Nat.le_refl _) _) ⟨u.heap.size, getD_put_self ac 8 _ (by show _ < ac.tmps.size; omega), hus, by simp, three_new _ _ _ _ _⟩ trivial
      · omega
    · intro L ac u hf hR0 hp hJ K' hK
      have hR : Grow w2 u := (Below.drew (Below.refl _ _)).trans hR0
      have hus := hR.size
      obtain ⟨B, m8, hB1, hB2, hB3⟩ := (hp 10 _ (by decide) rfl).2
      have m8 : ac.tmps.getD 8 undef = .pointer (some ⟨B, 0, none⟩) := m8
      have m53 : ac.tmps.getD 53 undef = .agg #[.pointer (some ⟨b1, off1, none⟩), .pointer (some ⟨b2, off2, none⟩), .int .i64 p.a.length] := (hp 9 _ (by decide) rfl).2
      obtain ⟨w3, hw3, TB, N3, S3, B3⟩ := three_store hB3 (.pointer (some ⟨b1, off1, none⟩)) (.pointer (some ⟨b2, off2, none⟩)) (.int .i64 p.a.length)
      have HW3 : Hid (_ = w3) := hw3
      have g23 : Below w2.heap.size w2 w3 := hR.trans (B3.mono (by omega))
      have HI3 : Hid (SameI w (a = b) lo' hi' w3 g cap (qs ++ [p])) := HI2.out.under g23
      have HT3 : Hid (PairV w3 wr.heap.size _ _) := HT2.out.at_ (g23.block wr.heap.size (by omega))
      have hs3 := g23.size
      have HTB : Hid (Three w3 B (.pointer (some ⟨b1, off1, none⟩)) (.pointer (some ⟨b2, off2, none⟩)) (.int .i64 p.a.length)) := TB
      obtain ⟨d0, d1, d2, df⟩ := hB3
      have df0 := df 0
      have df1 := df 1
      have df2 := df 2
      clear df hp hJ hR0 hR HI2 HT2 hw3 TB N3 B3 g23
      obtain ⟨f, ea, hfv⟩ := act_lit ac 95 hf.size
      have md : ac.defers = [] := hf.defers
      rw [md] at ea
      have m0 := hf.at_ 0 (by kernel_rfl)
      have m1 := hf.at_ 1 (by kernel_rfl)
      have m2 := hf.at_ 2 (by kernel_rfl)
      have m3 := hf.at_ 3 (by kernel_rfl)
      have m4 := hf.at_ 4 (by kernel_rfl)
      have m5 := hf.at_ 5 (by kernel_rfl)
      have m6 := hf.at_ 6 (by kernel_rfl)
      have m7 := hf.at_ 7 (by kernel_rfl)
      have m9 := hf.at_ 9 (by kernel_rfl)
      have m10 := hf.at_ 10 (by kernel_rfl)
      have m11 := hf.at_ 11 (by kernel_rfl)
      have m12 := hf.at_ 12 (by kernel_rfl)
      have m13 := hf.at_ 13 (by kernel_rfl)
      have m14 := hf.at_ 14 (by kernel_rfl)
      have m15 := hf.at_ 15 (by kernel_rfl)
      have m16 := hf.at_ 16 (by kernel_rfl)
      have m17 := hf.at_ 17 (by kernel_rfl)
      have m18 := hf.at_ 18 (by kernel_rfl)
      have m19 := hf.at_ 19 (by kernel_rfl)
      have m20 := hf.at_ 20 (by kernel_rfl)
      have m21 := hf.at_ 21 (by kernel_rfl)
      have m22 := hf.at_ 22 (by kernel_rfl)
      have m23 := hf.at_ 23 (by kernel_rfl)
      have m24 := hf.at_ 24 (by kernel_rfl)
      have m25 := hf.at_ 25 (by kernel_rfl)
      have m26 := hf.at_ 26 (by kernel_rfl)
      have m27 := hf.at_ 27 (by kernel_rfl)
      have m28 := hf.at_ 28 (by kernel_rfl)
      have m29 := hf.at_ 29 (by kernel_rfl)
      have m30 := hf.at_ 30 (by kernel_rfl)
      have m31 := hf.at_ 31 (by kernel_rfl)
      have m32 := hf.at_ 32 (by kernel_rfl)
      have m33 := hf.at_ 33 (by kernel_rfl)
      have m34 := hf.at_ 34 (by kernel_rfl)
      have m35 := hf.at_ 35 (by kernel_rfl)
      have m36 := hf.at_ 36 (by kernel_rfl)
      have m37 := hf.at_ 37 (by kernel_rfl)
      have m38 := hf.at_ 38 (by kernel_rfl)
      have m39 := hf.at_ 39 (by kernel_rfl)
      have m40 := hf.at_ 40 (by kernel_rfl)
      have m41 := hf.at_ 41 (by kernel_rfl)
      have m42 := hf.at_ 42 (by kernel_rfl)
      have m43 := hf.at_ 43 (by kernel_rfl)
      have m54 := hf.at_ 54 (by kernel_rfl)
      have m55 := hf.at_ 55 (by kernel_rfl)
      have m56 := hf.at_ 56 (by kernel_rfl)
      have m57 := hf.at_ 57 (by kernel_rfl)
      have m58 := hf.at_ 58 (by kernel_rfl)
      have m59 := hf.at_ 59 (by kernel_rfl)
      have m60 := hf.at_ 60 (by kernel_rfl)
      have m61 := hf.at_ 61 (by kernel_rfl)
      have m62 := hf.at_ 62 (by kernel_rfl)
      have m63 := hf.at_ 63 (by kernel_rfl)
      have m64 := hf.at_ 64 (by kernel_rfl)
      have m65 := hf.at_ 65 (by kernel_rfl)
      have m66 := hf.at_ 66 (by kernel_rfl)
      have m67 := hf.at_ 67 (by kernel_rfl)
      have m68 := hf.at_ 68 (by kernel_rfl)
      have m69 := hf.at_ 69 (by kernel_rfl)
      have m70 := hf.at_ 70 (by kernel_rfl)
      have m71 := hf.at_ 71 (by kernel_rfl)
      have m72 := hf.at_ 72 (by kernel_rfl)
      have m73 := hf.at_ 73 (by kernel_rfl)
      have m74 := hf.at_ 74 (by kernel_rfl)
      have m75 := hf.at_ 75 (by kernel_rfl)
      have m76 := hf.at_ 76 (by kernel_rfl)
      have m77 := hf.at_ 77 (by kernel_rfl)
      have m78 := hf.at_ 78 (by kernel_rfl)
      have m79 := hf.at_ 79 (by kernel_rfl)
      have m80 := hf.at_ 80 (by kernel_rfl)
      have m81 := hf.at_ 81 (by kernel_rfl)
      have m82 := hf.at_ 82 (by kernel_rfl)
      have m83 := hf.at_ 83 (by kernel_rfl)
      have m84 := hf.at_ 84 (by kernel_rfl)
      have m85 := hf.at_ 85 (by kernel_rfl)
      have m86 := hf.at_ 86 (by kernel_rfl)
      have m87 := hf.at_ 87 (by kernel_rfl)
      have m88 := hf.at_ 88 (by kernel_rfl)
      have m89 := hf.at_ 89 (by kernel_rfl)
      have m90 := hf.at_ 90 (by kernel_rfl)
      have m91 := hf.at_ 91 (by kernel_rfl)
      have m92 := hf.at_ 92 (by kernel_rfl)
      have m93 := hf.at_ 93 (by kernel_rfl)
      have m94 := hf.at_ 94 (by kernel_rfl)
      rw [← hfv] at m0 m1 m2 m3 m4 m5 m6 m7 m9 m10 m11 m12 m13 m14 m15 m16 m17 m18 m19 m20 m21 m22 m23 m24 m25 m26 m27 m28 m29 m30 m31 m32 m33 m34 m35 m36 m37 m38 m39 m40 m41 m42 m43 m54 m55 m56 m57 m58 m59 m60 m61 m62 m63 m64 m65 m66 m67 m68 m69 m70 m71 m72 m73 m74 m75 m76 m77 m78 m79 m80 m81 m82 m83 m84 m85 m86 m87 m88 m89 m90 m91 m92 m93 m94 m8 m53
      simp only [Array.getD_eq_getD_getElem?, List.getElem?_toArray, List.getElem?_cons_succ, List.getElem?_cons_zero, Option.getD_some] at m0 m1 m2 m3 m4 m5 m6 m7 m9 m10 m11 m12 m13 m14 m15 m16 m17 m18 m19 m20 m21 m22 m23 m24 m25 m26 m27 m28 m29 m30 m31 m32 m33 m34 m35 m36 m37 m38 m39 m40 m41 m42 m43 m54 m55 m56 m57 m58 m59 m60 m61 m62 m63 m64 m65 m66 m67 m68 m69 m70 m71 m72 m73 m74 m75 m76 m77 m78 m79 m80 m81 m82 m83 m84 m85 m86 m87 m88 m89 m90 m91 m92 m93 m94
      simp only [List.range, List.range.loop, List.map_cons, List.map_nil, m0, m1, m2, m3, m4, m5, m6, m7, m9, m10, m11, m12, m13, m14, m15, m16, m17, m18, m19, m20, m21, m22, m23, m24, m25, m26, m27, m28, m29, m30, m31, m32, m33, m34, m35, m36, m37, m38, m39, m40, m41, m42, m43, m54, m55, m56, m57, m58, m59, m60, m61, m62, m63, m64, m65, m66, m67, m68, m69, m70, m71, m72, m73, m74, m75, m76, m77, m78, m79, m80, m81, m82, m83, m84, m85, m86, m87, m88, m89, m90, m91, m92, m93, m94, m8, m53] at ea
      subst ea
      clear m0 m1 m2 m3 m4 m5 m6 m7 m9 m10 m11 m12 m13 m14 m15 m16 m17 m18 m19 m20 m21 m22 m23 m24 m25 m26 m27 m28 m29 m30 m31 m32 m33 m34 m35 m36 m37 m38 m39 m40 m41 m42 m43 m54 m55 m56 m57 m58 m59 m60 m61 m62 m63 m64 m65 m66 m67 m68 m69 m70 m71 m72 m73 m74 m75 m76 m77 m78 m79 m80 m81 m82 m83 m84 m85 m86 m87 m88 m89 m90 m91 m92 m93 m94 m8 m53 hfv md hf
      go_simp
      refine hK _ _ ?_
      clear hK
      rw [HW3.out]
      clear HW3 d0 d1 d2 df0 df1 df2
      have hB3 : B < w3.heap.size := by omega
      obtain ⟨es, clock, hmap, hes⟩ := HI3.out.map
      have hrow3 := HKS.out.row.kept (w' := w3) (HI3.out.below.block b1 (by have := HKS.out.blk; have := HOK.out.hh; omega))
      have hoth : ∀ u : World, Below w.heap.size w u → Others u b1 es.toList := fun u hu x hx => by
        obtain ⟨b', off', q', n', e1, e2, e3, e4⟩ := hes x hx
        have := e4 p (by simp)
        have hbk := HKS.out.blk
        exact ⟨b', off', q', n', e1, e2.kept (hu.block b' e3), by omega⟩
      have hl := lookup_noneT hmap hrow3 ⟨b2, off2, none⟩ (p.a.length : Int) (hoth w3 HI3.out.below)
      have g34 := (Below.refl w3.heap.size w3).alloc (Nat.le_refl _) (.cells #[] 131)
      have hmap4 : (w3.alloc (.cells #[] 131)).heap[w.heap.size]? = some (.map es clock) := by rw [g34.block _ (by have := HI3.out.below.size; omega)]; exact hmap
      have hup := update_noneT hmap4 (hrow3.kept (g34.block b1 (by have := HKS.out.blk; have := HOK.out.hh; have := HI3.out.below.size; omega))) ⟨b2, off2, none⟩ (p.a.length : Int) (hoth _ (HI3.out.below.trans (g34.mono HI3.out.below.size))) (.agg #[])
      obtain ⟨w5, hw5⟩ : ∃ w5, (w3.alloc (.cells #[] 131)).putObj w.heap.size (.map (es.push { key := keyV ⟨b1, off1, none⟩ ⟨b2, off2, none⟩ (p.a.length : Int), val := .agg #[], born := clock }) (clock + 1)) = w5 := ⟨_, rfl⟩
      have hz3 := HI3.out.row
      have N5 : ∀ k, k ≠ w.heap.size → w5.heap[k]? = (w3.alloc (.cells #[] 131)).heap[k]? := fun k hk => by rw [← hw5]; exact World.putObj_heap_other hk
      have M5 : w5.heap[w.heap.size]? = some (.map (es.push { key := keyV ⟨b1, off1, none⟩ ⟨b2, off2, none⟩ (p.a.length : Int), val := .agg #[], born := clock }) (clock + 1)) := by rw [← hw5]; exact World.putObj_heap_same (by rw [World.size_alloc]; omega)
      have S5 : w5.heap.size = w3.heap.size + 1 := by rw [← hw5]; simp [World.putObj]
      have O5 : w5.os = w3.os ∧ w5.tape = w3.tape ∧ w5.output = w3.output := by rw [← hw5]; exact ⟨rfl, rfl, rfl⟩
      have N35 : ∀ k, k < w3.heap.size → k ≠ w.heap.size → w5.heap[k]? = w3.heap[k]? := fun k h1 h2 => by rw [N5 k h2, g34.block k h1]
      rw [hw5] at hup
      have HT5 : Hid (PairV w5 wr.heap.size _ _) := HT3.out.at_ (N35 wr.heap.size (by omega) (by omega))
      have hB5 : Below w.heap.size w w5 := ⟨O5.1.trans HI3.out.below.os, O5.2.1.trans HI3.out.below.tape, O5.2.2.trans HI3.out.below.output, by have := HI3.out.below.size; omega, fun k hk => by have := HI3.out.below.size; rw [N35 k (by omega) (by omega)]; exact HI3.out.below.block k hk⟩
      have HN5 : Hid (SameN w w5 wr.heap.size (qs ++ kidsT kf 0) w5 g cap) := by
        have hpop := HI3.out.popOwn
        rw [kidsT, List.append_nil]
        exact ⟨hB5, own_kept hpop fun g' hg => by cases hg; exact N35 g (by omega) (by omega), rfl, rfl, by omega, Nat.le_refl _⟩
      have HM5 : Hid (∃ es clock, w5.heap[w.heap.size]? = some (.map es clock) ∧ ∀ x ∈ es.toList, ∃ b' off' q' n', x.key = keyV ⟨b', off', none⟩ q' n' ∧ RowAt w b' off' ∧ b' < w.heap.size ∧ (∀ y ∈ qs, b' < y.l ∨ y.h ≤ b') ∧ (∀ y ∈ kidsT kf p.a.length, b' < y.l ∨ y.h ≤ b')) := by
        have hrg : ∀ y ∈ kidsT kf p.a.length, (p.l ≤ y.l ∧ y.h ≤ p.h) ∧ (b1 < y.l ∨ y.h ≤ b1) := fun y hy => by
          obtain ⟨i, hi, hyi⟩ := mem_kidsT.1 hy
          have := HKS.out.rng i hi
          rcases hyi with rfl | rfl <;> omega
        refine ⟨_, _, M5, fun x hx => ?_⟩
        rw [Array.toList_push, List.mem_append] at hx
        rcases hx with hx | hx
        · obtain ⟨b', off', q', n', e1, e2, e3, e4⟩ := hes x hx
          refine ⟨b', off', q', n', e1, e2, e3, fun y hy => e4 y (List.mem_append_left _ hy), fun y hy => ?_⟩
          have h1 := e4 p (by simp)
          have h2 := hrg y hy
          omega
        · rw [List.mem_singleton] at hx; subst hx
          have hbk := HKS.out.blk
          have hph := HOK.out.hh
          refine ⟨b1, off1, ⟨b2, off2, none⟩, _, rfl, HKS.out.row, by omega, fun y hy => ?_, fun y hy => ?_⟩
          · have := (List.pairwise_append.1 HI3.out.dis).2.2 y hy p (by simp)
            unfold DisT at this
            omega
          · have := hrg y hy
            omega
      unfold keyV at hl hup
      obtain ⟨t0, t1, t2, _⟩ := HTB.out
      have c0 := HT5.out.c0
      have HIF : Hid (a = b ↔ ∀ x ∈ qs ++ [p], x.a = x.b) := HI3.out.iff
      have HDQ : Hid (∀ x ∈ qs, DisT x p) := fun x hx => (List.pairwise_append.1 HI3.out.dis).2.2 x hx p (by simp)
      have hV5 : wr.heap.size < w5.heap.size := by omega
      have hg5 : w.heap.size + 1 ≤ g := HI3.out.row.1
      have HITS : Hid (∀ x ∈ qs, ItemTOk w lo' hi' x) := fun x hx => HI3.out.items x (List.mem_append_left _ hx)
      have HDS : Hid (qs.Pairwise DisT) := (List.pairwise_append.1 HI3.out.dis).1
      clear hw5 N5 M5 N35 O5 hB5 hmap hmap4 hes hoth hrow3 HI3 HT3 g34 hz3
      go_wp2_with fail
      clear c0 t0 t1 t2
      obtain ⟨V, hV⟩ : ∃ V, wr.heap.size = V := ⟨_, rfl⟩
      rw [hV] at HT5 hV5 HN5 ⊢
      go_loopw [6, 67] (fun v i wr => ∃ (j g9 cap9 : Nat), i = .int .i64 j ∧ j ≤ p.a.length ∧ v = .slice (some ⟨g9, 0, none⟩) (qs.length + 2 * j) cap9 ∧ Hid (SameN w w5 V (qs ++ kidsT kf j) wr g9 cap9 ∧ ∀ i x y, i < j → p.a[i]? = some x → p.b[i]? = some y → BareT x y)) (fun _ i _ => p.a.length - (intOf i).toNat)
      case atStart =>
        exact ⟨0, g, cap, rfl, Nat.zero_le _, rfl, HN5.out, fun i x y hi => by omega⟩
      case round =>
        clear HN5 hl hup
        obtain ⟨j, g9, cap9, rfl, hj, rfl, HN9⟩ := hrel
        have hpl : (qs ++ kidsT kf j).length = qs.length + 2 * j := by rw [List.length_append, kidsT_length]
        have HPL : Hid ((qs ++ kidsT kf j).length = qs.length + 2 * j) := hpl
        have hr9 := HN9.out.1.row
        have hz9 := HN9.out.1.size
        have hbz := HN9.out.1.below.size
        have hne9 := HN9.out.1.ne
        rw [hpl] at hr9
        have hql9 : qs.length + 2 * j ≤ 8388608 := by omega
        clear hpl
        by_cases hjl : j < p.a.length
        · have hjl' : (j : Int) < (p.a.length : Int) := by omega
          have hjlb : (j : Int) < (p.b.length : Int) := by have := HL.out; omega
          have hjlbn : j < p.b.length := by have := HL.out; omega
          clear hsq hgk hlen hql hqc hcm hrow hq1 hq2 hka hkb hna' hnb' hpos hposb hposn hposbn hk0' hl2 hna hnb hcn hB1 hB2 hB3 hs3 S3 S5 hus hs2 hbw HM5 HDS HDQ HITS HPS
          obtain ⟨x, hx⟩ : ∃ x, p.a[j]? = some x := ⟨p.a[j], List.getElem?_eq_getElem _⟩
          obtain ⟨y, hy⟩ : ∃ y, p.b[j]? = some y := ⟨p.b[j], List.getElem?_eq_getElem _⟩
          obtain ⟨a1x, c1x, l1, h1, a1y, c1y, h10x, h10y, hko, hh1, hkr, f1, f2, f3, f4⟩ := HKS.out.at_ j x y hx hy
          obtain ⟨ok1, ok2⟩ := HKS.out.ok j hjl
          obtain ⟨a2x, c2x, g1, _, _⟩ := ok1.ka.sr.shape
          obtain ⟨a2y, c2y, g2, _, _⟩ := ok1.kb.shape
          obtain ⟨a3x, c3x, g3, _, _⟩ := ok2.ka.sr.shape
          obtain ⟨a3y, c3y, g4, _, _⟩ := ok2.kb.shape
          rw [f1] at g1
          rw [f2] at g2
          rw [f3] at g3
          rw [f4] at g4
          rw [g1, g3] at h10x
          rw [g2, g4] at h10y
          have HFC : Hid (rowQ [(kf j).1, (kf j).2] = [.slice a2x x.th.length c2x, .slice a2y y.th.length c2y, .slice a3x x.el.length c3x, .slice a3y y.el.length c3y]) := by show rowQ _ = _; simp [rowQ, ItemT.cells, g1, g2, g3, g4]
          have HXY : Hid (p.a[j]? = some x ∧ p.b[j]? = some y) := ⟨hx, hy⟩
          have hb1 : b1 < w.heap.size := by have := HKS.out.blk; have := HOK.out.hh; omega
          have hb2 : b2 < w.heap.size := by have := HKS.out.blk'; omega
          have hmx := stmt_lt hx
          have hmy := stmt_lt hy
          have hBw := HN9.out.1.below
          have hpn := HOK.out.na
          have hpm := HOK.out.nb
          obtain ⟨c0, c1, c2, c3, c4, c5, c6, c7, c8, c9⟩ := h10x.kept (hBw.block b1 hb1)
          obtain ⟨d0, d1, d2, d3, d4, d5, d6, d7, d8, d9⟩ := h10y.kept (hBw.block b2 hb2)
          have t1 := (HT5.out.at_ HN9.out.1.varb).c1
          have hVw : V < wr.heap.size := by omega
          have hb2w : b2 < wr.heap.size := by omega
          obtain ⟨u1, hu1, G1, A1, B1, S1⟩ : ∃ u1, (wr.alloc (.cells #[.int .i64 x.k, .int .i64 x.tk, .int .i64 x.ta, .int .i64 x.e.k, .int .i64 x.e.n, .int .i64 x.e.ak, .int .i64 x.e.at_, .slice a1x x.e.kids.length c1x, .slice a2x x.th.length c2x, .slice a3x x.el.length c3x] 101)).alloc (.cells #[.int .i64 y.k, .int .i64 y.tk, .int .i64 y.ta, .int .i64 y.e.k, .int .i64 y.e.n, .int .i64 y.e.ak, .int .i64 y.e.at_, .slice a1y y.e.kids.length c1y, .slice a2y y.th.length c2y, .slice a3y y.el.length c3y] 101) = u1 ∧ Below wr.heap.size wr u1 ∧ TenW u1 wr.heap.size (.int .i64 x.k) (.int .i64 x.tk) (.int .i64 x.ta) (.int .i64 x.e.k) (.int .i64 x.e.n) (.int .i64 x.e.ak) (.int .i64 x.e.at_) (.slice a1x x.e.kids.length c1x) (.slice a2x x.th.length c2x) (.slice a3x x.el.length c3x) ∧ TenW u1 (wr.heap.size + 1) (.int .i64 y.k) (.int .i64 y.tk) (.int .i64 y.ta) (.int .i64 y.e.k) (.int .i64 y.e.n) (.int .i64 y.e.ak) (.int .i64 y.e.at_) (.slice a1y y.e.kids.length c1y) (.slice a2y y.th.length c2y) (.slice a3y y.el.length c3y) ∧ u1.heap.size = wr.heap.size + 2 := by
            refine ⟨_, rfl, ((Below.refl wr.heap.size wr).alloc (Nat.le_refl _) _).alloc (by simp) _, (tenW_new wr (.int .i64 x.k) (.int .i64 x.tk) (.int .i64 x.ta) (.int .i64 x.e.k) (.int .i64 x.e.n) (.int .i64 x.e.ak) (.int .i64 x.e.at_) (.slice a1x x.e.kids.length c1x) (.slice a2x x.th.length c2x) (.slice a3x x.el.length c3x) 101).under ((Below.refl _ _).alloc (Nat.le_refl _) _) (by simp), ?_, by simp⟩
            have h1 := tenW_new (wr.alloc (.cells #[.int .i64 x.k, .int .i64 x.tk, .int .i64 x.ta, .int .i64 x.e.k, .int .i64 x.e.n, .int .i64 x.e.ak, .int .i64 x.e.at_, .slice a1x x.e.kids.length c1x, .slice a2x x.th.length c2x, .slice a3x x.el.length c3x] 101)) (.int .i64 y.k) (.int .i64 y.tk) (.int .i64 y.ta) (.int .i64 y.e.k) (.int .i64 y.e.n) (.int .i64 y.e.ak) (.int .i64 y.e.at_) (.slice a1y y.e.kids.length c1y) (.slice a2y y.th.length c2y) (.slice a3y y.el.length c3y) 101
            simp only [World.size_alloc] at h1
            exact h1
          have HU1 : Hid ((wr.alloc (.cells #[.int .i64 x.k, .int .i64 x.tk, .int .i64 x.ta, .int .i64 x.e.k, .int .i64 x.e.n, .int .i64 x.e.ak, .int .i64 x.e.at_, .slice a1x x.e.kids.length c1x, .slice a2x x.th.length c2x, .slice a3x x.el.length c3x] 101)).alloc (.cells #[.int .i64 y.k, .int .i64 y.tk, .int .i64 y.ta, .int .i64 y.e.k, .int .i64 y.e.n, .int .i64 y.e.ak, .int .i64 y.e.at_, .slice a1y y.e.kids.length c1y, .slice a2y y.th.length c2y, .slice a3y y.el.length c3y] 101) = u1) := hu1
          have hBu : Below w.heap.size w u1 := hBw.trans (G1.mono hbz)
          have hSB := sameBut_any u1 l1 h1 lo' hi' x y a1x a2x a3x a1y a2y a3y c1x c2x c3x c1y c2y c3y (hko.under hBu hh1) (hkr.under hBu hhi') (by omega) (by omega) (by omega) (by omega)
          have HA1 : Hid (TenW u1 wr.heap.size (.int .i64 x.k) (.int .i64 x.tk) (.int .i64 x.ta) (.int .i64 x.e.k) (.int .i64 x.e.n) (.int .i64 x.e.ak) (.int .i64 x.e.at_) (.slice a1x x.e.kids.length c1x) (.slice a2x x.th.length c2x) (.slice a3x x.el.length c3x)) := A1
          have HB1 : Hid (TenW u1 (wr.heap.size + 1) (.int .i64 y.k) (.int .i64 y.tk) (.int .i64 y.ta) (.int .i64 y.e.k) (.int .i64 y.e.n) (.int .i64 y.e.ak) (.int .i64 y.e.at_) (.slice a1y y.e.kids.length c1y) (.slice a2y y.th.length c2y) (.slice a3y y.el.length c3y)) := B1
          clear hx hy h10x h10y hko hkr f1 f2 f3 f4 ok1 ok2 g1 g2 g3 g4 hmx hmy hu1 A1 B1 hpn hpm hh1
          go_wp2_with fail
          rw [HU1.out]
          refine hSB.mono ?_
          clear hSB HU1 c0 c1 c2 c3 c4 c5 c6 c7 c8 c9 d0 d1 d2 d3 d4 d5 d6 d7 d8 d9 t1
          rintro en u2 ⟨r, rfl, hr, g2⟩
          have S2 := g2.size
          have hBu2 := hBu.trans (g2.mono (by omega))
          have HR : Hid (r = true ↔ BareT x y) := hr
          clear hr
          cases r with
          | false =>
            have HN : Hid (¬ a = b) := fun e => by
              have h1 := HIF.out.1 e p (by simp)
              have h2 := HXY.out.1
              rw [h1, HXY.out.2] at h2
              cases h2
              have := HR.out.2 ⟨rfl, ⟨rfl, rfl⟩, rfl⟩
              cases this
            clear HA1 HB1 g2
            go_wp2
            go_ret
            exact ⟨false, rfl, ⟨(fun h => by cases h), fun h => absurd h HN.out⟩, hBu2⟩
          | true =>
            have c8 := (HA1.out.under g2 (by omega)).c8
            have c9 := (HA1.out.under g2 (by omega)).c9
            have d8 := (HB1.out.under g2 (by omega)).c8
            have d9 := (HB1.out.under g2 (by omega)).c9
            obtain ⟨u3, hu3, G3, hblk, S3⟩ : ∃ u3, u2.alloc (.cells #[.slice a2x x.th.length c2x, .slice a2y y.th.length c2y, .slice a3x x.el.length c3x, .slice a3y y.el.length c3y] 126) = u3 ∧ Below u2.heap.size u2 u3 ∧ u3.heap[u2.heap.size]? = some (.cells #[.slice a2x x.th.length c2x, .slice a2y y.th.length c2y, .slice a3x x.el.length c3x, .slice a3y y.el.length c3y] 126) ∧ u3.heap.size = u2.heap.size + 1 :=
              ⟨_, rfl, (Below.refl _ _).alloc (Nat.le_refl _) _, heap_alloc_new u2 _, by simp⟩
            have g13 : Below wr.heap.size wr u3 := (G1.trans (g2.mono (by omega))).trans (G3.mono (by omega))
            have hown : u3.ownsRow (w.heap.size + 1) 126 2 (.slice (some ⟨g9, 0, none⟩) (qs.length + 2 * j) cap9) (qs.length + 2 * j) (rowQ (qs ++ kidsT kf j)) := own_kept (by have := HN9.out.1.own; rw [HPL.out] at this; exact this) fun q hq => g13.block q (by cases hq; exact hr9.2.1)
            have HG13 : Hid (Below wr.heap.size wr u3) := g13
            have HBR : Hid (BareT x y) := HR.out.1 (by first | rfl | trivial)
            clear g13 G3 g2 G1 HR HA1 HB1
            go_wp2_with (at_builtin; go_loud ((try rw [hu3]); refine wpList_append_lies _ rfl _ _ 127 rfl (w.heap.size + 1) 126 i0 (.agg #[.slice none 0 0, .slice none 0 0]) 2 48 Try.underlying127 hi0 hz0 hz1 hz2 rfl (by decide) (.slice (some ⟨g9, 0, none⟩) (qs.length + 2 * j) cap9) (qs.length + 2 * j) (rowQ (qs ++ kidsT kf j)) rfl hown ⟨u2.heap.size, 0, none⟩ 2 2 [.slice a2x x.th.length c2x, .slice a2y y.th.length c2y, .slice a3x x.el.length c3x, .slice a3y y.el.length c3y] rfl rfl (World.news_of_block hblk) (by intro z hz; simp at hz; rcases hz with rfl | rfl | rfl | rfl <;> rfl) (by decide) (by unfold maxLen; omega) (by omega) (by omega) u3.heap.size rfl ?_; intro g' c' u4 hown' hgrow hat2 hlt2))
            have HNX : Hid (SameN w w5 V (qs ++ kidsT kf (j + 1)) u4 g' c') := by
              have hg' : g' = g9 ∨ wr.heap.size ≤ g' := hat2.elim (fun h2 => Or.inl (by simp [Value.ownBlock] at h2; exact h2.symm)) (fun h2 => Or.inr (by have := HG13.out.size; omega))
              have := HN9.out.1.next (f := kf) (j := j) HPL.out hV5 HG13.out hgrow (by rw [HFC.out]; exact hown') hg'
              exact this
            have HBX : Hid (∀ i x y, i < j + 1 → p.a[i]? = some x → p.b[i]? = some y → BareT x y) := by
              intro i x' y' hi hx' hy'
              by_cases e : i = j
              · subst e
                rw [HXY.out.1] at hx'
                rw [HXY.out.2] at hy'
                cases hx'; cases hy'
                exact HBR.out
              · exact HN9.out.2 i x' y' (by omega) hx' hy'
            clear hown hown' hgrow hat2 hblk c8 c9 d8 d9
            go_wp2
            go_roundw
            case rel => exact ⟨j + 1, g', c', by go_num, by omega, by rw [show qs.length + 2 * (j + 1) = qs.length + 2 * j + 2 by omega], HNX.out, HBX.out⟩
            case measure => simp [intOf]; omega
        · have hjl' : ¬ (j : Int) < (p.a.length : Int) := by omega
          obtain rfl : j = p.a.length := by omega
          have hsum9 := HKS.out.sum HL.out p.a.length (Nat.le_refl _)
          rw [List.take_length] at hsum9
          have HEND : Hid (SameI w (a = b) lo' hi' wr g9 cap9 (qs ++ kidsT kf p.a.length)) := by
            have hN := HN9.out.1
            obtain ⟨es9, cl9, hm9, hes9⟩ := HM5.out
            refine ⟨hN.below, hN.own, ⟨es9, cl9, hN.mapb.trans hm9, fun x hx => ?_⟩, fun x hx => ?_, ?_, ?_⟩
            · obtain ⟨b', off', q', n', f1, f2, f3, f4, f5⟩ := hes9 x hx
              refine ⟨b', off', q', n', f1, f2, f3, fun y hy => ?_⟩
              rcases List.mem_append.1 hy with hy | hy
              · exact f4 y hy
              · exact f5 y hy
            · rcases List.mem_append.1 hx with hx | hx
              · exact HITS.out x hx
              · obtain ⟨i, hi, hxi⟩ := mem_kidsT.1 hx
                have := HKS.out.ok i hi
                rcases hxi with rfl | rfl
                · exact this.1
                · exact this.2
            · rw [List.pairwise_append]
              refine ⟨HDS.out, HKS.out.dis, fun x hx y hy => ?_⟩
              have h1 := HDQ.out x hx
              obtain ⟨i, hi, hyi⟩ := mem_kidsT.1 hy
              have h2 := HKS.out.rng i hi
              unfold DisT at h1 ⊢
              rcases hyi with rfl | rfl <;> omega
            · rw [HIF.out]
              have he := HKS.out.eq HL.out HN9.out.2
              constructor
              · intro h x hx
                rcases List.mem_append.1 hx with hx | hx
                · exact h x (List.mem_append_left _ hx)
                · exact he.1 (h p (by simp)) x hx
              · intro h x hx
                rcases List.mem_append.1 hx with hx | hx
                · exact h x (List.mem_append_left _ hx)
                · rw [List.mem_singleton] at hx
                  subst hx
                  exact he.2 fun k hk => h k (List.mem_append_right _ hk)
          have hse : sumQ (qs ++ kidsT kf p.a.length) < gk := by rw [sumQ_append]; omega
          have hlen9 := HPL.out
          clear HN9 HM5 HT5 HKS
          go_wp2
          go_roundg (sumQ (qs ++ kidsT kf p.a.length))
          case measure => omega
          case rel => exact ⟨g9, cap9, qs ++ kidsT kf p.a.length, by rw [hlen9], Nat.le_refl _, by omega, HEND.out⟩
end Go.Proofs.Ytaoiookfmgpmkaa
