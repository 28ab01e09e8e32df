/-
  ExprAlike of the program: a list of pairs, a map of those that were taken up.
-/
import Derived.Test.YtkeockippmmneaaGreatQS7
import Derived.Test.YtkeockippmmneaaGreatQS6
import Derived.Test.YtkeockippmmneaaGreatAddrKit
import Derived.Deep.LoopGhost
import Derived.Deep.AppendLies
namespace Go.Proofs.YtkeockippmmneaaGreat
open Go.ChangeShapes Go.WideShapes Go.ChangeAt Go.RowKit
set_option linter.unusedVariables false
set_option maxRecDepth 100000

/-- What holds ahead of a round: ps are still to be held against each other. -/
structure AlikeI (w : World) (Q : Prop) (lo hi N : Nat) (wr : World) (g cap : Nat) (ps : List Item) : Prop where
  below : Below w.heap.size w wr
  own : wr.ownsRow (w.heap.size + 3) 104 10 (.slice (some ⟨g, 0, none⟩) ps.length cap) ps.length (rowP ps)
  map : ∃ es clock, wr.heap[w.heap.size + 2]? = some (.map es clock) ∧ ∀ x ∈ es.toList, ∃ b' off' q' n', x.key = keyV ⟨b', off', none⟩ q' n' ∧ RowAt w b' off' ∧ b' < w.heap.size ∧ ∀ p ∈ ps, b' < p.l ∨ p.h ≤ b'
  items : ∀ p ∈ ps, ItemOk w lo hi N p
  dis : ps.Pairwise fun x y => x.h ≤ y.l ∨ y.h ≤ x.l
  iff : Q ↔ ∀ p ∈ ps, p.a = p.b

theorem AlikeI.row {w : World} {Q : Prop} {lo hi N : Nat} {wr : World} {g cap : Nat} {ps : List Item} (h : AlikeI w Q lo hi N wr g cap ps) : w.heap.size + 3 ≤ g ∧ g < wr.heap.size ∧ ps.length ≤ cap ∧ cap ≤ maxLen := by
  rcases h.own.2 with ⟨h0, _⟩ | ⟨g', cap', cur, hv, hb, hg, h1, h2, _⟩
  · cases h0
  · cases hv
    exact ⟨hb, (Array.getElem?_eq_some_iff.mp hg).1, h1, h2⟩

theorem AlikeI.last {w : World} {Q : Prop} {lo hi N : Nat} {wr : World} {g cap : Nat} {qs : List Item} {p : Item} (h : AlikeI w Q lo hi N wr g cap (qs ++ [p])) (i : Nat) (hi : i < 10) : wr.cell? ⟨g, qs.length * 10 + i, none⟩ = p.cells[i]? := by
  rw [h.own.cellAt _ (by simp; omega), rowP_last qs p i hi]

theorem own_kept {u u' : World} {base e s n : Nat} {v : Value} {xs : List Value} (h : u.ownsRow base e s v n xs) (hk : ∀ g, v.ownBlock = some g → u'.heap[g]? = u.heap[g]?) : u'.ownsRow base e s v n xs := by
  refine ⟨h.1, ?_⟩
  rcases h.2 with ⟨rfl, hn⟩ | ⟨g, cap, cur, rfl, hb, hh, r⟩
  · exact .inl ⟨rfl, hn⟩
  · exact .inr ⟨g, cap, cur, rfl, hb, by rw [hk g rfl]; exact hh, r⟩

/-- The invariant goes on where new blocks alone are laid. -/
theorem AlikeI.under {w : World} {Q : Prop} {lo hi N : Nat} {wr u : World} {g cap : Nat} {ps : List Item} (h : AlikeI w Q lo hi N wr g cap ps) (hb : Below wr.heap.size wr u) : AlikeI w Q lo hi N u g cap ps := by
  obtain ⟨h1, h2, h3, h4, h5, h6⟩ := h
  have hr := (AlikeI.row ⟨h1, h2, h3, h4, h5, h6⟩)
  obtain ⟨es, clock, hm, hes⟩ := h3
  exact ⟨h1.trans (hb.mono h1.size), own_kept h2 fun g' hg => hb.block g' (by cases hg; exact hr.2.1), ⟨es, clock, by rw [hb.block _ (by omega)]; exact hm, hes⟩, h4, h5, h6⟩

/-- The last pair is taken off. -/
theorem AlikeI.pop {w : World} {Q Q' : Prop} {lo hi N : Nat} {wr : World} {g cap : Nat} {qs : List Item} {p : Item} (h : AlikeI w Q lo hi N wr g cap (qs ++ [p])) (hq : Q' ↔ ∀ x ∈ qs, x.a = x.b) : AlikeI w Q' lo hi N wr g cap qs := by
  obtain ⟨h1, h2, ⟨es, clock, hm, hes⟩, h4, h5, h6⟩ := h
  rw [List.length_append, List.length_cons, List.length_nil, rowP_snoc] at h2
  exact ⟨h1, ownsRow_pop (rowP_length qs) h2, ⟨es, clock, hm, fun x hx => by
    obtain ⟨b', off', q', n', e1, e2, e3, e4⟩ := hes x hx
    exact ⟨b', off', q', n', e1, e2, e3, fun y hy => e4 y (List.mem_append_left _ hy)⟩⟩, fun y hy => h4 y (List.mem_append_left _ hy), (List.pairwise_append.1 h5).1, hq⟩

/-- Ten values in one block. -/
structure Ten (u : World) (V : Nat) (x0 x1 x2 x3 x4 x5 x6 x7 x8 x9 : Value) : Prop where
  c0 : u.cell? ⟨V, 0, none⟩ = some x0
  c1 : u.cell? ⟨V, 1, none⟩ = some x1
  c2 : u.cell? ⟨V, 2, none⟩ = some x2
  c3 : u.cell? ⟨V, 3, none⟩ = some x3
  c4 : u.cell? ⟨V, 4, none⟩ = some x4
  c5 : u.cell? ⟨V, 5, none⟩ = some x5
  c6 : u.cell? ⟨V, 6, none⟩ = some x6
  c7 : u.cell? ⟨V, 7, none⟩ = some x7
  c8 : u.cell? ⟨V, 8, none⟩ = some x8
  c9 : u.cell? ⟨V, 9, none⟩ = some x9

theorem ten_new (u : World) (x0 x1 x2 x3 x4 x5 x6 x7 x8 x9 : Value) (t : TypeId) : Ten (u.alloc (.cells #[x0, x1, x2, x3, x4, x5, x6, x7, x8, x9] t)) u.heap.size x0 x1 x2 x3 x4 x5 x6 x7 x8 x9 :=
  ⟨World.cell?_alloc_new _ _ _ _, World.cell?_alloc_new _ _ _ _, World.cell?_alloc_new _ _ _ _, World.cell?_alloc_new _ _ _ _, World.cell?_alloc_new _ _ _ _, World.cell?_alloc_new _ _ _ _, World.cell?_alloc_new _ _ _ _, World.cell?_alloc_new _ _ _ _, World.cell?_alloc_new _ _ _ _, World.cell?_alloc_new _ _ _ _⟩
theorem Ten.at_ {u u' : World} {V : Nat} {x0 x1 x2 x3 x4 x5 x6 x7 x8 x9 : Value} (h : Ten u V x0 x1 x2 x3 x4 x5 x6 x7 x8 x9) (hk : u'.heap[V]? = u.heap[V]?) : Ten u' V x0 x1 x2 x3 x4 x5 x6 x7 x8 x9 :=
  ⟨by rw [World.cell?_of_block (w := u) hk]; exact h.c0, by rw [World.cell?_of_block (w := u) hk]; exact h.c1, by rw [World.cell?_of_block (w := u) hk]; exact h.c2, by rw [World.cell?_of_block (w := u) hk]; exact h.c3, by rw [World.cell?_of_block (w := u) hk]; exact h.c4, by rw [World.cell?_of_block (w := u) hk]; exact h.c5, by rw [World.cell?_of_block (w := u) hk]; exact h.c6, by rw [World.cell?_of_block (w := u) hk]; exact h.c7, by rw [World.cell?_of_block (w := u) hk]; exact h.c8, by rw [World.cell?_of_block (w := u) hk]; exact h.c9⟩

/-- What holds as the kids' pairs are laid behind the others: ps are laid. -/
structure AlikeN (w w5 : World) (V : Nat) (ps : List Item) (wr : World) (g cap : Nat) : Prop where
  below : Below w.heap.size w wr
  own : wr.ownsRow (w.heap.size + 3) 104 10 (.slice (some ⟨g, 0, none⟩) ps.length cap) ps.length (rowP ps)
  mapb : wr.heap[w.heap.size + 2]? = w5.heap[w.heap.size + 2]?
  varb : wr.heap[V]? = w5.heap[V]?
  ne : g ≠ V
  size : w5.heap.size ≤ wr.heap.size

theorem AlikeN.row {w w5 : World} {V : Nat} {ps : List Item} {wr : World} {g cap : Nat} (h : AlikeN w w5 V ps wr g cap) : w.heap.size + 3 ≤ g ∧ g < wr.heap.size ∧ ps.length ≤ cap ∧ cap ≤ maxLen := by
  rcases h.own.2 with ⟨h0, _⟩ | ⟨g', cap', cur, hv, hb, hg, h1, h2, _⟩
  · cases h0
  · cases hv
    exact ⟨hb, (Array.getElem?_eq_some_iff.mp hg).1, h1, h2⟩

theorem AlikeN.next {w w5 : World} {V : Nat} {ps : List Item} {wr u : World} {g cap : Nat} (h : AlikeN w w5 V ps wr g cap) {k : Item} {g' c' : Nat} (hV : V < w5.heap.size) (hw5 : w.heap.size + 3 ≤ w5.heap.size) (hVw : w.heap.size + 3 ≤ V) (hR : RowA (some g) wr u)
    (hown : u.ownsRow (w.heap.size + 3) 104 10 (.slice (some ⟨g', 0, none⟩) (ps.length + 1) c') (ps.length + 1) (rowP ps ++ k.cells)) (hg : g' = g ∨ wr.heap.size ≤ g') : AlikeN w w5 V (ps ++ [k]) u g' c' := by
  have hr := h.row
  have hs := (hR 0).size
  have hz := h.size
  have hbs := h.below.size
  refine ⟨⟨(hR 0).os.trans h.below.os, (hR 0).tape.trans h.below.tape, (hR 0).output.trans h.below.output, by omega, fun q hq => ?_⟩, ?_, ?_, ?_, ?_, by omega⟩
  · rw [hR.block q (by omega) (by simp; omega)]; exact h.below.block q hq
  · rw [List.length_append, List.length_cons, List.length_nil, rowP_snoc]; exact hown
  · rw [hR.block _ (by omega) (by simp; omega)]; exact h.mapb
  · have := h.ne
    rw [hR.block _ (by omega) (by simp; omega)]; exact h.varb
  · have := h.ne
    omega

theorem snoc_cases (ps : List Item) : ps = [] ∨ ∃ qs p, ps = qs ++ [p] := by
  rcases List.eq_nil_or_concat ps with h | ⟨qs, p, h⟩
  · exact .inl h
  · exact .inr ⟨qs, p, by simpa using h⟩

set_option maxHeartbeats 16000000 in
theorem iExprAlike_any (w : World) (lo hi lo' hi' N : Nat) (va vb : Value) (a b : ExprD) (ha : EO w lo hi va a) (hb : ER w lo' hi' vb b) (hhi : hi ≤ w.heap.size) (hhi' : hi' ≤ w.heap.size) (hna : manyE a ≤ 1048577) (hnb : manyE b ≤ 1048577) :
    Calls Tryz.prog 67 #[va, vb] w fun e w' => ∃ r : Bool, e = .returned (.bool r) ∧ (r = true ↔ a = b) ∧ Below w.heap.size w w' := by
  obtain ⟨s, rfl, ka⟩ := ha
  obtain ⟨t, rfl, kb⟩ := hb
  obtain ⟨ads, cps, rfl, _, _⟩ := ka.kr.shape
  obtain ⟨adt, cpt, rfl, _, _⟩ := kb.shape
  obtain ⟨u0, hu0, hI⟩ : ∃ u0, (((w.alloc (.cells #[.int .i64 a.k, .int .i64 a.n, .int .i64 a.ak, .int .i64 a.at_, .slice ads a.kids.length cps] 42)).alloc (.cells #[.int .i64 b.k, .int .i64 b.n, .int .i64 b.ak, .int .i64 b.at_, .slice adt b.kids.length cpt] 42)).alloc (.map #[] 0)).alloc (.cells #[.int .i64 a.k, .int .i64 a.n, .int .i64 a.ak, .int .i64 a.at_, .slice ads a.kids.length cps, .int .i64 b.k, .int .i64 b.n, .int .i64 b.ak, .int .i64 b.at_, .slice adt b.kids.length cpt] 104) = u0 ∧
      AlikeI w (a = b) lo' hi' 1048577 u0 (w.heap.size + 3) 1 [⟨a, .slice ads a.kids.length cps, b, .slice adt b.kids.length cpt, lo, hi⟩] := by
    refine ⟨_, rfl, ⟨(below_alloc3 w _ _ _).alloc (by simp; omega) _, ⟨rfl, .inr ⟨_, 1, #[.int .i64 a.k, .int .i64 a.n, .int .i64 a.ak, .int .i64 a.at_, .slice ads a.kids.length cps, .int .i64 b.k, .int .i64 b.n, .int .i64 b.ak, .int .i64 b.at_, .slice adt b.kids.length cpt], rfl, Nat.le_refl _, ?_, Nat.le_refl _, by unfold maxLen; omega, rfl, rfl⟩⟩, ⟨#[], 0, ?_, fun x hx => by simp at hx⟩, ?_, List.pairwise_singleton _ _, ?_⟩⟩
    · have := heap_alloc_new (((w.alloc (.cells #[.int .i64 a.k, .int .i64 a.n, .int .i64 a.ak, .int .i64 a.at_, .slice ads a.kids.length cps] 42)).alloc (.cells #[.int .i64 b.k, .int .i64 b.n, .int .i64 b.ak, .int .i64 b.at_, .slice adt b.kids.length cpt] 42)).alloc (.map #[] 0)) (.cells #[.int .i64 a.k, .int .i64 a.n, .int .i64 a.ak, .int .i64 a.at_, .slice ads a.kids.length cps, .int .i64 b.k, .int .i64 b.n, .int .i64 b.ak, .int .i64 b.at_, .slice adt b.kids.length cpt] 104)
      simpa using this
    · have h1 := heap_alloc_new ((w.alloc (.cells #[.int .i64 a.k, .int .i64 a.n, .int .i64 a.ak, .int .i64 a.at_, .slice ads a.kids.length cps] 42)).alloc (.cells #[.int .i64 b.k, .int .i64 b.n, .int .i64 b.ak, .int .i64 b.at_, .slice adt b.kids.length cpt] 42)) (.map #[] 0)
      rw [((Below.refl _ _).alloc (Nat.le_refl _) _).block (w.heap.size + 2) (by simp)]
      simpa using h1
    · intro p hp
      simp at hp
      subst hp
      exact ⟨ka, hhi, kb, hna, hnb⟩
    · simp
  have HU : Hid (_ = u0) := hu0
  have HII : Hid (AlikeI w (a = b) lo' hi' 1048577 u0 (w.heap.size + 3) 1 [⟨a, .slice ads a.kids.length cps, b, .slice adt b.kids.length cpt, lo, hi⟩]) := hI
  clear hu0 hI ka kb
  have hmm := @run_makeMap Tryz.prog
  obtain ⟨i0, hi0, hz0, hz1, hz2⟩ : ∃ i, Tryz.prog.info? 104 = some i ∧ i.zero = some (.agg #[.int .i64 0, .int .i64 0, .int .i64 0, .int .i64 0, .slice none 0 0, .int .i64 0, .int .i64 0, .int .i64 0, .int .i64 0, .slice none 0 0]) ∧ i.size = 10 ∧ i.bytes = 112 := info_parts (by kernel_rfl)
  go_enter Tryz.func67, Tryz.ntmps67
  go_wp2_with fail
  rw [HU.out]
  clear HU
  go_loopg [6] (manyE a) (fun gk v wr => ∃ g cap ps, v = .slice (some ⟨g, 0, none⟩) ps.length cap ∧ sumE ps ≤ gk ∧ gk ≤ 1048577 ∧ Hid (AlikeI w (a = b) lo' hi' 1048577 wr g cap ps))
  case atStart => exact ⟨_, 1, _, rfl, by simp [sumE], hna, HII.out⟩
  case round =>
    clear HII
    obtain ⟨g, cap, ps, rfl, hsum, hgk, HI⟩ := hrel
    have hlen := length_le_sumE ps
    rcases snoc_cases ps with rfl | ⟨qs, p, rfl⟩
    · have HB : Hid (Below w.heap.size w wr) := HI.out.below
      have HE : Hid (a = b) := HI.out.iff.2 fun p hp => by simp at hp
      go_wp2
      go_ret
      exact ⟨true, rfl, ⟨fun _ => HE.out, fun _ => rfl⟩, HB.out⟩
    have hok := HI.out.items p (by simp)
    obtain ⟨ada, capa, hps, _, _⟩ := hok.ka.kr.shape
    obtain ⟨adb, capb, hpt, _, _⟩ := hok.kb.shape
    have hka := length_le_manyL p.a.kids
    have hkb := length_le_manyL p.b.kids
    have hna' := hok.na
    have hnb' := hok.nb
    rw [manyE_eq] at hna' hnb'
    have hrow := HI.out.row
    rw [show (qs ++ [p]).length = qs.length + 1 by simp] at hrow hlen
    have hq1 : ((qs ++ [p]).length : Int) = (qs.length : Int) + 1 := by simp
    have hq2 : (qs ++ [p]).length = qs.length + 1 := by simp
    have e0 := HI.out.last 0 (by omega)
    have e1 := HI.out.last 1 (by omega)
    have e2 := HI.out.last 2 (by omega)
    have e3 := HI.out.last 3 (by omega)
    have e4 := HI.out.last 4 (by omega)
    have e5 := HI.out.last 5 (by omega)
    have e6 := HI.out.last 6 (by omega)
    have e7 := HI.out.last 7 (by omega)
    have e8 := HI.out.last 8 (by omega)
    have e9 := HI.out.last 9 (by omega)
    simp only [Item.cells, hps, hpt, List.getElem?_cons_succ, List.getElem?_cons_zero, Nat.add_zero] at e0 e1 e2 e3 e4 e5 e6 e7 e8 e9
    have hSB := fun W => sameBare_any W p.a p.b ada adb capa capb (by omega) (by omega)
    have HPS : Hid (p.s = .slice ada p.a.kids.length capa ∧ p.t = .slice adb p.b.kids.length capb) := ⟨hps, hpt⟩
    have HOK : Hid (ItemOk w lo' hi' 1048577 p) := hok
    have hql : qs.length ≤ 1048577 := by omega
    have hqc : qs.length + 1 ≤ cap := hrow.2.2.1
    have hcm : cap ≤ 9223372036854775807 := by have := hrow.2.2.2; unfold maxLen at this; omega
    clear hps hpt hok
    go_wp2_with fail
    refine (hSB _).mono ?_
    rintro e1' w2 ⟨rfl, g2⟩
    clear hSB e0 e1 e2 e3 e4 e5 e6 e7 e8 e9
    have g12 : Below wr.heap.size wr w2 := ((Below.refl _ _).alloc (Nat.le_refl _) _).trans (g2.mono (by simp))
    have T2 := (ten_new wr (.int .i64 p.a.k) (.int .i64 p.a.n) (.int .i64 p.a.ak) (.int .i64 p.a.at_) (.slice ada p.a.kids.length capa) (.int .i64 p.b.k) (.int .i64 p.b.n) (.int .i64 p.b.ak) (.int .i64 p.b.at_) (.slice adb p.b.kids.length capb) 104).at_ (g2.block wr.heap.size (by simp))
    have hs2 : wr.heap.size + 1 ≤ w2.heap.size := by have := g2.size; simpa using this
    have HI2 : Hid (AlikeI w (a = b) lo' hi' 1048577 w2 g cap (qs ++ [p])) := HI.out.under g12
    have HT2 : Hid (Ten w2 wr.heap.size _ _ _ _ _ _ _ _ _ _) := T2
    have hsq : sumE qs + manyE p.a ≤ gk := by rw [sumE_append] at hsum; simp [sumE] at hsum; omega
    have hme := manyE_eq p.a
    clear HI g2 g12 hsum
    cases hbare : bareB p.a p.b with
    | false =>
      have HB : Hid (Below w.heap.size w w2) := HI2.out.below
      have HN : Hid (¬ a = b) := fun e => by
        have := HI2.out.iff.1 e p (by simp)
        rw [bare_of_eq this] at hbare; cases hbare
      clear HI2 HT2 T2
      go_wp2
      go_ret
      exact ⟨false, rfl, ⟨(fun h => by cases h), fun h => absurd h HN.out⟩, HB.out⟩
    | true =>
    have hl := ((bareB_iff _ _).1 hbare).2.2.2.2
    have c4 := T2.c4
    by_cases hk0 : p.a.kids.length = 0
    · have hk0' : ((p.a.kids.length : Int) == 0) = true := by simp [hk0]
      have HP : Hid (AlikeI w (a = b) lo' hi' 1048577 w2 g cap qs) := HI2.out.pop (by
        rw [HI2.out.iff]
        constructor
        · exact fun h x hx => h x (List.mem_append_left _ hx)
        · intro h x hx
          rcases List.mem_append.1 hx with hx | hx
          · exact h x hx
          · rw [List.mem_singleton] at hx
            subst hx
            rw [eq_of_bare hbare]
            have e1 := List.eq_nil_of_length_eq_zero hk0
            have e2 := List.eq_nil_of_length_eq_zero (hl ▸ hk0)
            rw [e1, e2])
      have HK0 : Hid (p.a.kids.length = 0) := hk0
      have HL : Hid (p.a.kids.length = p.b.kids.length) := hl
      clear HI2 HT2 T2 hk0 hl
      go_wp2
      go_roundg (sumE qs)
      case measure => omega
      case rel => exact ⟨g, cap, qs, rfl, Nat.le_refl _, by omega, HP.out⟩
    have hk0' : ((p.a.kids.length : Int) == 0) = false := by rw [beq_eq_false_iff_ne]; omega
    obtain ⟨b1, off1, cap1, b2, off2, cap2, ks, hks⟩ := kid_items HOK.out hl (by omega)
    have es := hks.sa
    have et := hks.sb
    rw [HPS.out.1] at es
    rw [HPS.out.2] at et
    simp only [Value.slice.injEq, true_and] at es et
    obtain ⟨rfl, rfl⟩ := es
    obtain ⟨rfl, rfl⟩ := et
    have HKS : Hid (KidItems w lo' hi' 1048577 p b1 off1 capa b2 off2 capb ks) := hks
    have HL : Hid (p.a.kids.length = p.b.kids.length) := hl
    have hpos : (0 : Int) < (p.a.kids.length : Int) := by omega
    have hposb : (0 : Int) < (p.b.kids.length : Int) := by omega
    have hposn : 0 < p.a.kids.length := by omega
    have hposbn : 0 < p.b.kids.length := by omega
    clear hks hl hk0
    go_wp2_with fail
    clear c4
    refine wp_region_last (R := Grow) (Φ := fun i v u => match i with
        | 0 => v = .pointer (some ⟨wr.heap.size, 0, none⟩)
        | 1 => v = .pointer (some ⟨wr.heap.size, 4, none⟩)
        | 2 => v = .slice (some ⟨b1, off1, none⟩) p.a.kids.length capa
        | 3 => v = .pointer (some ⟨b1, off1, none⟩)
        | 4 => v = .pointer (some ⟨wr.heap.size, 5, none⟩)
        | 5 => v = .pointer (some ⟨wr.heap.size, 9, none⟩)
        | 6 => v = .slice (some ⟨b2, off2, none⟩) p.b.kids.length capb
        | 7 => v = .pointer (some ⟨b2, off2, none⟩)
        | 8 => v = .pointer (some ⟨wr.heap.size, 0, none⟩)
        | 9 => v = .pointer (some ⟨wr.heap.size, 4, none⟩)
        | 10 => v = .slice (some ⟨b1, off1, none⟩) p.a.kids.length capa
        | 11 => v = .int .i64 p.a.kids.length
        | 12 => v = .agg #[.pointer (some ⟨b1, off1, none⟩), .pointer (some ⟨b2, off2, none⟩), .int .i64 p.a.kids.length]
        | 13 => ∃ B, v = .pointer (some ⟨B, 0, none⟩) ∧ w2.heap.size ≤ B ∧ B < u.heap.size ∧ Three u B (.pointer none) (.pointer none) (.int .i64 0)
        | _ => True)
      (J := fun _ _ _ => True) 14 _ rfl rfl (by kernel_rfl) (by kernel_rfl) (by kernel_rfl) (by kernel_rfl) (Below.refl _ _) grow_trans ?_ trivial ?_ ?_
    · intro i v u u' hr
      have hs := hr.size
      match i with
      | 0 | 1 | 2 | 3 | 4 | 5 | 6 | 7 | 8 | 9 | 10 | 11 | 12 | _ + 14 => exact fun h => h
      | 13 => exact fun ⟨B, h1, h2, h3, h4⟩ => ⟨B, h1, h2, by omega, h4.at_ (hr.block B h3)⟩
    · intro i o ho hin L ac u hf hR0 hLs hLi hp he hJ K' hK
      have hR : Grow w2 u := (Below.drew (Below.refl _ _)).trans hR0
      have hsz' : ac.tmps.size = 86 := hf.size
      have hus := hR.size
      rcases i with _ | _ | _ | _ | _ | _ | _ | _ | _ | _ | _ | _ | _ | _ | i
      · obtain rfl := Option.some.inj ho
        have q7 : ac.tmps.getD 7 undef = .pointer (some ⟨wr.heap.size, 0, none⟩) := hf.at_ 7 (by kernel_rfl)
        clear hp he
        go_simp
        exact hK _ _ (Below.refl _ _) (getD_put_self ac 39 _ (by show _ < ac.tmps.size; omega)) trivial
      · obtain rfl := Option.some.inj ho
        have q39 : ac.tmps.getD 39 undef = .pointer (some ⟨wr.heap.size, 0, none⟩) := hp 0 _ rfl (he _ (Array.mem_of_getElem? (i := 0) rfl) (by kernel_rfl))
        clear hp he
        go_simp
        exact hK _ _ (Below.refl _ _) (getD_put_self ac 40 _ (by show _ < ac.tmps.size; omega)) trivial
      · obtain rfl := Option.some.inj ho
        have q40 : ac.tmps.getD 40 undef = .pointer (some ⟨wr.heap.size, 4, none⟩) := hp 1 _ rfl (he _ (Array.mem_of_getElem? (i := 0) rfl) (by kernel_rfl))
        have cc := (HT2.out.at_ (hR.block wr.heap.size (by omega))).c4
        clear hp he
        go_simp
        exact hK _ _ (Below.refl _ _) (getD_put_self ac 41 _ (by show _ < ac.tmps.size; omega)) trivial
      · obtain rfl := Option.some.inj ho
        have q41 : ac.tmps.getD 41 undef = .slice (some ⟨b1, off1, none⟩) p.a.kids.length capa := hp 2 _ rfl (he _ (Array.mem_of_getElem? (i := 0) rfl) (by kernel_rfl))
        clear hp he
        go_simp
        exact hK _ _ (Below.refl _ _) (getD_put_self ac 42 _ (by show _ < ac.tmps.size; omega)) trivial
      · obtain rfl := Option.some.inj ho
        have q7 : ac.tmps.getD 7 undef = .pointer (some ⟨wr.heap.size, 0, none⟩) := hf.at_ 7 (by kernel_rfl)
        clear hp he
        go_simp
        exact hK _ _ (Below.refl _ _) (getD_put_self ac 43 _ (by show _ < ac.tmps.size; omega)) trivial
      · obtain rfl := Option.some.inj ho
        have q43 : ac.tmps.getD 43 undef = .pointer (some ⟨wr.heap.size, 5, none⟩) := hp 4 _ rfl (he _ (Array.mem_of_getElem? (i := 0) rfl) (by kernel_rfl))
        clear hp he
        go_simp
        exact hK _ _ (Below.refl _ _) (getD_put_self ac 44 _ (by show _ < ac.tmps.size; omega)) trivial
      · obtain rfl := Option.some.inj ho
        have q44 : ac.tmps.getD 44 undef = .pointer (some ⟨wr.heap.size, 9, none⟩) := hp 5 _ rfl (he _ (Array.mem_of_getElem? (i := 0) rfl) (by kernel_rfl))
        have cc := (HT2.out.at_ (hR.block wr.heap.size (by omega))).c9
        clear hp he
        go_simp
        exact hK _ _ (Below.refl _ _) (getD_put_self ac 45 _ (by show _ < ac.tmps.size; omega)) trivial
      · obtain rfl := Option.some.inj ho
        have q45 : ac.tmps.getD 45 undef = .slice (some ⟨b2, off2, none⟩) p.b.kids.length capb := hp 6 _ rfl (he _ (Array.mem_of_getElem? (i := 0) rfl) (by kernel_rfl))
        clear hp he
        go_simp
        exact hK _ _ (Below.refl _ _) (getD_put_self ac 46 _ (by show _ < ac.tmps.size; omega)) trivial
      · obtain rfl := Option.some.inj ho
        have q7 : ac.tmps.getD 7 undef = .pointer (some ⟨wr.heap.size, 0, none⟩) := hf.at_ 7 (by kernel_rfl)
        clear hp he
        go_simp
        exact hK _ _ (Below.refl _ _) (getD_put_self ac 47 _ (by show _ < ac.tmps.size; omega)) trivial
      · obtain rfl := Option.some.inj ho
        have q47 : ac.tmps.getD 47 undef = .pointer (some ⟨wr.heap.size, 0, none⟩) := hp 8 _ rfl (he _ (Array.mem_of_getElem? (i := 0) rfl) (by kernel_rfl))
        clear hp he
        go_simp
        exact hK _ _ (Below.refl _ _) (getD_put_self ac 48 _ (by show _ < ac.tmps.size; omega)) trivial
      · obtain rfl := Option.some.inj ho
        have q48 : ac.tmps.getD 48 undef = .pointer (some ⟨wr.heap.size, 4, none⟩) := hp 9 _ rfl (he _ (Array.mem_of_getElem? (i := 0) rfl) (by kernel_rfl))
        have cc := (HT2.out.at_ (hR.block wr.heap.size (by omega))).c4
        clear hp he
        go_simp
        exact hK _ _ (Below.refl _ _) (getD_put_self ac 49 _ (by show _ < ac.tmps.size; omega)) trivial
      · obtain rfl := Option.some.inj ho
        have q49 : ac.tmps.getD 49 undef = .slice (some ⟨b1, off1, none⟩) p.a.kids.length capa := hp 10 _ rfl (he _ (Array.mem_of_getElem? (i := 0) rfl) (by kernel_rfl))
        clear hp he
        go_simp
        exact hK _ _ (Below.refl _ _) (getD_put_self ac 50 _ (by show _ < ac.tmps.size; omega)) trivial
      · obtain rfl := Option.some.inj ho
        have q42 : ac.tmps.getD 42 undef = .pointer (some ⟨b1, off1, none⟩) := hp 3 _ rfl (he _ (Array.mem_of_getElem? (i := 0) rfl) (by kernel_rfl))
        have q46 : ac.tmps.getD 46 undef = .pointer (some ⟨b2, off2, none⟩) := hp 7 _ rfl (he _ (Array.mem_of_getElem? (i := 1) rfl) (by kernel_rfl))
        have q50 : ac.tmps.getD 50 undef = .int .i64 p.a.kids.length := hp 11 _ rfl (he _ (Array.mem_of_getElem? (i := 2) rfl) (by kernel_rfl))
        have q42b : ac.tmps[42]?.getD undef = .pointer (some ⟨b1, off1, none⟩) := by rw [← q42]; exact (Array.getD_eq_getD_getElem? ..).symm
        have q46b : ac.tmps[46]?.getD undef = .pointer (some ⟨b2, off2, none⟩) := by rw [← q46]; exact (Array.getD_eq_getD_getElem? ..).symm
        have q50b : ac.tmps[50]?.getD undef = .int .i64 p.a.kids.length := by rw [← q50]; exact (Array.getD_eq_getD_getElem? ..).symm
        have HZ : Hid (ac.tmps.size = 86) := hsz'
        clear hp he hsz' q42 q46 q50
        go_simp
        have hsz' := HZ.out
        exact hK _ _ (Below.refl _ _) (getD_put_self ac 51 _ (by show _ < ac.tmps.size; omega)) trivial
      · obtain rfl := Option.some.inj ho
        clear hp he
        go_simp
        exact hK _ _ ((Below.refl _ _).alloc (Nat.le_refl _) _) ⟨u.heap.size, getD_put_self ac 8 _ (by show _ < ac.tmps.size; omega), hus, by simp, three_new _ _ _ _ _⟩ trivial
      · omega
    · intro L ac u hf hR0 hp hJ K' hK
      have hR : Grow w2 u := (Below.drew (Below.refl _ _)).trans hR0
      have hus := hR.size
      obtain ⟨B, m8, hB1, hB2, hB3⟩ := (hp 13 _ (by decide) rfl).2
      have m8 : ac.tmps.getD 8 undef = .pointer (some ⟨B, 0, none⟩) := m8
      have m51 : ac.tmps.getD 51 undef = .agg #[.pointer (some ⟨b1, off1, none⟩), .pointer (some ⟨b2, off2, none⟩), .int .i64 p.a.kids.length] := (hp 12 _ (by decide) rfl).2
      obtain ⟨w3, hw3, TB, N3, S3, B3⟩ := three_store hB3 (.pointer (some ⟨b1, off1, none⟩)) (.pointer (some ⟨b2, off2, none⟩)) (.int .i64 p.a.kids.length)
      have HW3 : Hid (_ = w3) := hw3
      have g23 : Below w2.heap.size w2 w3 := hR.trans (B3.mono (by omega))
      have HI3 : Hid (AlikeI w (a = b) lo' hi' 1048577 w3 g cap (qs ++ [p])) := HI2.out.under g23
      have HT3 : Hid (Ten w3 wr.heap.size _ _ _ _ _ _ _ _ _ _) := HT2.out.at_ (g23.block wr.heap.size (by omega))
      have hs3 := g23.size
      have HTB : Hid (Three w3 B (.pointer (some ⟨b1, off1, none⟩)) (.pointer (some ⟨b2, off2, none⟩)) (.int .i64 p.a.kids.length)) := TB
      obtain ⟨d0, d1, d2, df⟩ := hB3
      have df0 := df 0
      have df1 := df 1
      have df2 := df 2
      clear df hp hJ hR0 hR HI2 HT2 T2 hw3 TB N3 B3 g23
      obtain ⟨f, ea, hfv⟩ := act_lit ac 86 hf.size
      have md : ac.defers = [] := hf.defers
      rw [md] at ea
      have m0 := hf.at_ 0 (by kernel_rfl)
      have m1 := hf.at_ 1 (by kernel_rfl)
      have m2 := hf.at_ 2 (by kernel_rfl)
      have m3 := hf.at_ 3 (by kernel_rfl)
      have m4 := hf.at_ 4 (by kernel_rfl)
      have m5 := hf.at_ 5 (by kernel_rfl)
      have m6 := hf.at_ 6 (by kernel_rfl)
      have m7 := hf.at_ 7 (by kernel_rfl)
      have m9 := hf.at_ 9 (by kernel_rfl)
      have m10 := hf.at_ 10 (by kernel_rfl)
      have m11 := hf.at_ 11 (by kernel_rfl)
      have m12 := hf.at_ 12 (by kernel_rfl)
      have m13 := hf.at_ 13 (by kernel_rfl)
      have m14 := hf.at_ 14 (by kernel_rfl)
      have m15 := hf.at_ 15 (by kernel_rfl)
      have m16 := hf.at_ 16 (by kernel_rfl)
      have m17 := hf.at_ 17 (by kernel_rfl)
      have m18 := hf.at_ 18 (by kernel_rfl)
      have m19 := hf.at_ 19 (by kernel_rfl)
      have m20 := hf.at_ 20 (by kernel_rfl)
      have m21 := hf.at_ 21 (by kernel_rfl)
      have m22 := hf.at_ 22 (by kernel_rfl)
      have m23 := hf.at_ 23 (by kernel_rfl)
      have m24 := hf.at_ 24 (by kernel_rfl)
      have m25 := hf.at_ 25 (by kernel_rfl)
      have m26 := hf.at_ 26 (by kernel_rfl)
      have m27 := hf.at_ 27 (by kernel_rfl)
      have m28 := hf.at_ 28 (by kernel_rfl)
      have m29 := hf.at_ 29 (by kernel_rfl)
      have m30 := hf.at_ 30 (by kernel_rfl)
      have m31 := hf.at_ 31 (by kernel_rfl)
      have m32 := hf.at_ 32 (by kernel_rfl)
      have m33 := hf.at_ 33 (by kernel_rfl)
      have m34 := hf.at_ 34 (by kernel_rfl)
      have m35 := hf.at_ 35 (by kernel_rfl)
      have m36 := hf.at_ 36 (by kernel_rfl)
      have m37 := hf.at_ 37 (by kernel_rfl)
      have m38 := hf.at_ 38 (by kernel_rfl)
      have m52 := hf.at_ 52 (by kernel_rfl)
      have m53 := hf.at_ 53 (by kernel_rfl)
      have m54 := hf.at_ 54 (by kernel_rfl)
      have m55 := hf.at_ 55 (by kernel_rfl)
      have m56 := hf.at_ 56 (by kernel_rfl)
      have m57 := hf.at_ 57 (by kernel_rfl)
      have m58 := hf.at_ 58 (by kernel_rfl)
      have m59 := hf.at_ 59 (by kernel_rfl)
      have m60 := hf.at_ 60 (by kernel_rfl)
      have m61 := hf.at_ 61 (by kernel_rfl)
      have m62 := hf.at_ 62 (by kernel_rfl)
      have m63 := hf.at_ 63 (by kernel_rfl)
      have m64 := hf.at_ 64 (by kernel_rfl)
      have m65 := hf.at_ 65 (by kernel_rfl)
      have m66 := hf.at_ 66 (by kernel_rfl)
      have m67 := hf.at_ 67 (by kernel_rfl)
      have m68 := hf.at_ 68 (by kernel_rfl)
      have m69 := hf.at_ 69 (by kernel_rfl)
      have m70 := hf.at_ 70 (by kernel_rfl)
      have m71 := hf.at_ 71 (by kernel_rfl)
      have m72 := hf.at_ 72 (by kernel_rfl)
      have m73 := hf.at_ 73 (by kernel_rfl)
      have m74 := hf.at_ 74 (by kernel_rfl)
      have m75 := hf.at_ 75 (by kernel_rfl)
      have m76 := hf.at_ 76 (by kernel_rfl)
      have m77 := hf.at_ 77 (by kernel_rfl)
      have m78 := hf.at_ 78 (by kernel_rfl)
      have m79 := hf.at_ 79 (by kernel_rfl)
      have m80 := hf.at_ 80 (by kernel_rfl)
      have m81 := hf.at_ 81 (by kernel_rfl)
      have m82 := hf.at_ 82 (by kernel_rfl)
      have m83 := hf.at_ 83 (by kernel_rfl)
      have m84 := hf.at_ 84 (by kernel_rfl)
      have m85 := hf.at_ 85 (by kernel_rfl)
      rw [← hfv] at m0 m1 m2 m3 m4 m5 m6 m7 m9 m10 m11 m12 m13 m14 m15 m16 m17 m18 m19 m20 m21 m22 m23 m24 m25 m26 m27 m28 m29 m30 m31 m32 m33 m34 m35 m36 m37 m38 m52 m53 m54 m55 m56 m57 m58 m59 m60 m61 m62 m63 m64 m65 m66 m67 m68 m69 m70 m71 m72 m73 m74 m75 m76 m77 m78 m79 m80 m81 m82 m83 m84 m85 m8 m51
      simp only [Array.getD_eq_getD_getElem?, List.getElem?_toArray, List.getElem?_cons_succ, List.getElem?_cons_zero, Option.getD_some] at m0 m1 m2 m3 m4 m5 m6 m7 m9 m10 m11 m12 m13 m14 m15 m16 m17 m18 m19 m20 m21 m22 m23 m24 m25 m26 m27 m28 m29 m30 m31 m32 m33 m34 m35 m36 m37 m38 m52 m53 m54 m55 m56 m57 m58 m59 m60 m61 m62 m63 m64 m65 m66 m67 m68 m69 m70 m71 m72 m73 m74 m75 m76 m77 m78 m79 m80 m81 m82 m83 m84 m85
      simp only [List.range, List.range.loop, List.map_cons, List.map_nil, m0, m1, m2, m3, m4, m5, m6, m7, m9, m10, m11, m12, m13, m14, m15, m16, m17, m18, m19, m20, m21, m22, m23, m24, m25, m26, m27, m28, m29, m30, m31, m32, m33, m34, m35, m36, m37, m38, m52, m53, m54, m55, m56, m57, m58, m59, m60, m61, m62, m63, m64, m65, m66, m67, m68, m69, m70, m71, m72, m73, m74, m75, m76, m77, m78, m79, m80, m81, m82, m83, m84, m85, m8, m51] at ea
      subst ea
      clear m0 m1 m2 m3 m4 m5 m6 m7 m9 m10 m11 m12 m13 m14 m15 m16 m17 m18 m19 m20 m21 m22 m23 m24 m25 m26 m27 m28 m29 m30 m31 m32 m33 m34 m35 m36 m37 m38 m52 m53 m54 m55 m56 m57 m58 m59 m60 m61 m62 m63 m64 m65 m66 m67 m68 m69 m70 m71 m72 m73 m74 m75 m76 m77 m78 m79 m80 m81 m82 m83 m84 m85 m8 m51 hfv md hf
      go_simp
      refine hK _ _ ?_
      clear hK
      rw [HW3.out]
      clear HW3 d0 d1 d2 df0 df1 df2
      have hB3 : B < w3.heap.size := by omega
      obtain ⟨es, clock, hmap, hes⟩ := HI3.out.map
      have hrow3 := HKS.out.row.kept (w' := w3) (HI3.out.below.block b1 (by have := HKS.out.blk; have := HOK.out.hh; omega))
      have hoth : ∀ u : World, Below w.heap.size w u → Others u b1 es.toList := fun u hu x hx => by
        obtain ⟨b', off', q', n', e1, e2, e3, e4⟩ := hes x hx
        have := e4 p (by simp)
        have hbk := HKS.out.blk
        exact ⟨b', off', q', n', e1, e2.kept (hu.block b' e3), by omega⟩
      have hl := lookup_none hmap hrow3 ⟨b2, off2, none⟩ (p.a.kids.length : Int) (hoth w3 HI3.out.below)
      have g34 := (Below.refl w3.heap.size w3).alloc (Nat.le_refl _) (.cells #[] 109)
      have hmap4 : (w3.alloc (.cells #[] 109)).heap[w.heap.size + 2]? = some (.map es clock) := by rw [g34.block _ (by omega)]; exact hmap
      have hup := update_none hmap4 (hrow3.kept (g34.block b1 (by have := HKS.out.blk; have := HOK.out.hh; omega))) ⟨b2, off2, none⟩ (p.a.kids.length : Int) (hoth _ (HI3.out.below.trans (g34.mono HI3.out.below.size))) (.agg #[])
      obtain ⟨w5, hw5⟩ : ∃ w5, (w3.alloc (.cells #[] 109)).putObj (w.heap.size + 2) (.map (es.push { key := keyV ⟨b1, off1, none⟩ ⟨b2, off2, none⟩ (p.a.kids.length : Int), val := .agg #[], born := clock }) (clock + 1)) = w5 := ⟨_, rfl⟩
      have N5 : ∀ k, k ≠ w.heap.size + 2 → w5.heap[k]? = (w3.alloc (.cells #[] 109)).heap[k]? := fun k hk => by rw [← hw5]; exact World.putObj_heap_other hk
      have M5 : w5.heap[w.heap.size + 2]? = some (.map (es.push { key := keyV ⟨b1, off1, none⟩ ⟨b2, off2, none⟩ (p.a.kids.length : Int), val := .agg #[], born := clock }) (clock + 1)) := by rw [← hw5]; exact World.putObj_heap_same (by rw [World.size_alloc]; omega)
      have S5 : w5.heap.size = w3.heap.size + 1 := by rw [← hw5]; simp [World.putObj]
      have O5 : w5.os = w3.os ∧ w5.tape = w3.tape ∧ w5.output = w3.output := by rw [← hw5]; exact ⟨rfl, rfl, rfl⟩
      have N35 : ∀ k, k < w3.heap.size → k ≠ w.heap.size + 2 → w5.heap[k]? = w3.heap[k]? := fun k h1 h2 => by rw [N5 k h2, g34.block k h1]
      rw [hw5] at hup
      have HT5 : Hid (Ten w5 wr.heap.size _ _ _ _ _ _ _ _ _ _) := HT3.out.at_ (N35 wr.heap.size (by omega) (by omega))
      have hB5 : Below w.heap.size w w5 := ⟨O5.1.trans HI3.out.below.os, O5.2.1.trans HI3.out.below.tape, O5.2.2.trans HI3.out.below.output, by have := HI3.out.below.size; omega, fun k hk => by have := HI3.out.below.size; rw [N35 k (by omega) (by omega)]; exact HI3.out.below.block k hk⟩
      have HI5 : Hid (AlikeI w (∀ x ∈ qs ++ ks.take 0, x.a = x.b) lo' hi' 1048577 w5 g cap (qs ++ ks.take 0)) := by
        have hpop := HI3.out.pop (Q' := ∀ x ∈ qs, x.a = x.b) Iff.rfl
        rw [List.take_zero, List.append_nil]
        refine ⟨hB5, own_kept hpop.own fun g' hg => ?_, ⟨_, _, M5, fun x hx => ?_⟩, hpop.items, hpop.dis, Iff.rfl⟩
        · cases hg; exact N35 g (by have := HI3.out.row; omega) (by have := HI3.out.row; omega)
        · rw [Array.toList_push, List.mem_append] at hx
          rcases hx with hx | hx
          · obtain ⟨b', off', q', n', e1, e2, e3, e4⟩ := hes x hx
            exact ⟨b', off', q', n', e1, e2, e3, fun y hy => e4 y (List.mem_append_left _ hy)⟩
          · rw [List.mem_singleton] at hx; subst hx
            have hbk := HKS.out.blk
            have hph := HOK.out.hh
            refine ⟨b1, off1, ⟨b2, off2, none⟩, _, rfl, HKS.out.row, by omega, fun y hy => ?_⟩
            have := (List.pairwise_append.1 HI3.out.dis).2.2 y hy p (by simp)
            omega
      have HM5 : Hid (∃ es clock, w5.heap[w.heap.size + 2]? = some (.map es clock) ∧ ∀ x ∈ es.toList, ∃ b' off' q' n', x.key = keyV ⟨b', off', none⟩ q' n' ∧ RowAt w b' off' ∧ b' < w.heap.size ∧ (∀ y ∈ qs, b' < y.l ∨ y.h ≤ b') ∧ (∀ y ∈ ks, b' < y.l ∨ y.h ≤ b')) := by
        refine ⟨_, _, M5, fun x hx => ?_⟩
        rw [Array.toList_push, List.mem_append] at hx
        rcases hx with hx | hx
        · obtain ⟨b', off', q', n', e1, e2, e3, e4⟩ := hes x hx
          refine ⟨b', off', q', n', e1, e2, e3, fun y hy => e4 y (List.mem_append_left _ hy), fun y hy => ?_⟩
          have h1 := e4 p (by simp)
          have h2 := HKS.out.rng y hy
          omega
        · rw [List.mem_singleton] at hx; subst hx
          have hbk := HKS.out.blk
          have hph := HOK.out.hh
          refine ⟨b1, off1, ⟨b2, off2, none⟩, _, rfl, HKS.out.row, by omega, fun y hy => ?_, fun y hy => ?_⟩
          · have := (List.pairwise_append.1 HI3.out.dis).2.2 y hy p (by simp)
            omega
          · have := HKS.out.rng y hy
            omega
      unfold keyV at hl hup
      obtain ⟨t0, t1, t2, _⟩ := HTB.out
      have c4 := HT5.out.c4
      have HIF : Hid (a = b ↔ ∀ x ∈ qs ++ [p], x.a = x.b) := HI3.out.iff
      have HDQ : Hid (∀ x ∈ qs, x.h ≤ p.l ∨ p.h ≤ x.l) := fun x hx => (List.pairwise_append.1 HI3.out.dis).2.2 x hx p (by simp)
      have hV5 : wr.heap.size < w5.heap.size := by omega
      have hg5 : w.heap.size + 3 ≤ g := HI3.out.row.1
      clear hw5 N5 M5 N35 O5 hB5 hmap hmap4 hes hoth hrow3 HI3 HT3 g34
      have HITS : Hid (∀ x ∈ qs, ItemOk w lo' hi' 1048577 x) := fun x hx => HI5.out.items x (by simp [hx])
      have HDS : Hid (qs.Pairwise fun x y => x.h ≤ y.l ∨ y.h ≤ x.l) := show qs.Pairwise _ from by have := HI5.out.dis; simpa using this
      go_wp2_with fail
      clear c4 t0 t1 t2
      obtain ⟨V, hV⟩ : ∃ V, wr.heap.size = V := ⟨_, rfl⟩
      rw [hV] at HT5 hV5 ⊢
      go_loopw [6, 66] (fun v i wr => ∃ (j g9 cap9 : Nat), i = .int .i64 j ∧ j ≤ p.a.kids.length ∧ v = .slice (some ⟨g9, 0, none⟩) (qs.length + j) cap9 ∧ Hid (AlikeN w w5 V (qs ++ ks.take j) wr g9 cap9)) (fun _ i _ => p.a.kids.length - (intOf i).toNat)
      case atStart =>
        refine ⟨0, g, cap, rfl, Nat.zero_le _, rfl, HI5.out.below, HI5.out.own, rfl, rfl, by omega, Nat.le_refl _⟩
      case round =>
        clear HI5 hl hup
        obtain ⟨j, g9, cap9, rfl, hj, rfl, HN9⟩ := hrel
        have hkl := HKS.out.len
        have hpl : (qs ++ ks.take j).length = qs.length + j := by rw [List.length_append, List.length_take]; omega
        have HPL : Hid ((qs ++ ks.take j).length = qs.length + j) := hpl
        have hr9 := HN9.out.row
        have hz9 := HN9.out.size
        have hbz := HN9.out.below.size
        rw [hpl] at hr9
        have hql9 : qs.length + j ≤ 2097154 := by omega
        clear hpl
        by_cases hjl : j < p.a.kids.length
        · have hjl' : (j : Int) < (p.a.kids.length : Int) := by omega
          have hjlb : (j : Int) < (p.b.kids.length : Int) := by have := HL.out; omega
          have hjlbn : j < p.b.kids.length := by have := HL.out; omega
          obtain ⟨k, hk⟩ : ∃ k, ks[j]? = some k := ⟨ks[j]'(by omega), List.getElem?_eq_getElem _⟩
          have HKJ : Hid (ks[j]? = some k) := hk
          have hkok := HKS.out.ok k (List.mem_of_getElem? hk)
          obtain ⟨e1, e2, h5a, h5b⟩ := HKS.out.at_ j k hk
          obtain ⟨adk, ck, hks', _, _⟩ := hkok.ka.kr.shape
          obtain ⟨adl, cl, hkt', _, _⟩ := hkok.kb.shape
          rw [hks'] at h5a
          rw [hkt'] at h5b
          have H5A : Hid (Cell5 w b1 (off1 + j * 5) k.a _) := h5a
          have H5B : Hid (Cell5 w b2 (off2 + j * 5) k.b _) := h5b
          have HKC : Hid (k.cells = [.int .i64 k.a.k, .int .i64 k.a.n, .int .i64 k.a.ak, .int .i64 k.a.at_, .slice adk k.a.kids.length ck, .int .i64 k.b.k, .int .i64 k.b.n, .int .i64 k.b.ak, .int .i64 k.b.at_, .slice adl k.b.kids.length cl]) := by show k.cells = _; unfold Item.cells; rw [hks', hkt']
          have hb1 : b1 < w.heap.size := by have := HKS.out.blk; have := HOK.out.hh; omega
          have hb2 : b2 < w.heap.size := by have := HKS.out.blk'; omega
          have hne9 : ∀ q, q < w.heap.size + 3 → some q ≠ some g9 := fun q hq e => by simp at e; omega
          have hneV : some V ≠ some g9 := fun e => by have := HN9.out.ne; simp at e; omega
          clear hk hkok e1 e2 h5a h5b hks' hkt' hkl
          go_wp2_with fail
          refine wp_region_last (R := RowA (some g9)) (Φ := fun i v u => match i with
              | 0 => v = .slice (some ⟨g9, 0, none⟩) (qs.length + j) cap9
              | 1 => v = .pointer (some ⟨V, 0, none⟩)
              | 2 => v = .pointer (some ⟨V, 4, none⟩)
              | 3 => v = .slice (some ⟨b1, off1, none⟩) p.a.kids.length capa
              | 4 => v = .int .i64 j
              | 5 => v = .pointer (some ⟨b1, off1 + j * 5, none⟩)
              | 6 => v = .agg #[.int .i64 k.a.k, .int .i64 k.a.n, .int .i64 k.a.ak, .int .i64 k.a.at_, .slice adk k.a.kids.length ck]
              | 7 => v = .pointer (some ⟨V, 5, none⟩)
              | 8 => v = .pointer (some ⟨V, 9, none⟩)
              | 9 => v = .slice (some ⟨b2, off2, none⟩) p.b.kids.length capb
              | 10 => v = .int .i64 j
              | 11 => v = .pointer (some ⟨b2, off2 + j * 5, none⟩)
              | 12 => v = .agg #[.int .i64 k.b.k, .int .i64 k.b.n, .int .i64 k.b.ak, .int .i64 k.b.at_, .slice adl k.b.kids.length cl]
              | 13 => v = .agg #[.int .i64 k.a.k, .int .i64 k.a.n, .int .i64 k.a.ak, .int .i64 k.a.at_, .slice adk k.a.kids.length ck, .int .i64 k.b.k, .int .i64 k.b.n, .int .i64 k.b.ak, .int .i64 k.b.at_, .slice adl k.b.kids.length cl]
              | 14 => ∃ q, v = .slice (some ⟨q, 0, none⟩) 1 1 ∧ u.heap[q]? = some (.cells #[.int .i64 k.a.k, .int .i64 k.a.n, .int .i64 k.a.ak, .int .i64 k.a.at_, .slice adk k.a.kids.length ck, .int .i64 k.b.k, .int .i64 k.b.n, .int .i64 k.b.ak, .int .i64 k.b.at_, .slice adl k.b.kids.length cl] 104) ∧ wr.heap.size ≤ q ∧ q < u.heap.size
              | _ => True)
            (J := fun L a u => KidJ 99 15 84 (fun _ => True) (fun _ => True) (fun u => u.ownsRow (w.heap.size + 3) 104 10 (.slice (some ⟨g9, 0, none⟩) (qs.length + j) cap9) (qs.length + j) (rowP (qs ++ ks.take j))) (fun v u => ∃ g' c', v = .slice (some ⟨g', 0, none⟩) (qs.length + j + 1) c' ∧ u.ownsRow (w.heap.size + 3) 104 10 v (qs.length + j + 1) (rowP (qs ++ ks.take j) ++ [.int .i64 k.a.k, .int .i64 k.a.n, .int .i64 k.a.ak, .int .i64 k.a.at_, .slice adk k.a.kids.length ck, .int .i64 k.b.k, .int .i64 k.b.n, .int .i64 k.b.ak, .int .i64 k.b.at_, .slice adl k.b.kids.length cl]) ∧ (g' = g9 ∨ wr.heap.size ≤ g')) L a u ∧ a.tmps.getD 6 undef = .slice (some ⟨g9, 0, none⟩) (qs.length + j) cap9)
            16 _ rfl rfl (by kernel_rfl) (by kernel_rfl) (by kernel_rfl) (by kernel_rfl) (fun _ => RowR.refl _ _ _) (fun _ _ _ h k B => (h B).trans (k B)) ?_ ?_ ?_ ?_
          · intro i v u u' hr
            have hs := (hr 0).size
            match i with
            | 0 | 1 | 2 | 3 | 4 | 5 | 6 | 7 | 8 | 9 | 10 | 11 | 12 | 13 | _ + 15 => exact fun h => h
            | 14 => exact fun ⟨q, h1, h2, h3, h4⟩ => ⟨q, h1, by rw [hr.block q h4 (by simp; omega)]; exact h2, h3, by omega⟩
          · have g0 : Below wr.heap.size wr wr.drew := Below.drew (Below.refl _ _)
            exact ⟨⟨fun _ => trivial, fun _ => trivial, fun _ => own_kept (by have := HN9.out.own; rw [HPL.out] at this; exact this) fun q hq => g0.block q (by cases hq; exact hr9.2.1), fun h => by simp at h⟩, rfl⟩
          · intro i o ho hin L ac u hf hR0 hLs hLi hp he hJ K' hK
            obtain ⟨hJ, hJ6⟩ := hJ
            have hR : RowA (some g9) wr u := fun B => (RowR.of_below (Below.drew (Below.refl _ _))).trans (hR0 B)
            have hsz' : ac.tmps.size = 86 := hf.size
            have hus := (hR 0).size
            have hbw : Below w.heap.size w u := ⟨(hR 0).os.trans HN9.out.below.os, (hR 0).tape.trans HN9.out.below.tape, (hR 0).output.trans HN9.out.below.output, by omega, fun q hq => by rw [hR.block q (by omega) (hne9 q (by omega))]; exact HN9.out.below.block q hq⟩
            have hTu : Ten u V _ _ _ _ _ _ _ _ _ _ := HT5.out.at_ ((hR.block V (by omega) hneV).trans HN9.out.varb)
            rcases i with _ | _ | _ | _ | _ | _ | _ | _ | _ | _ | _ | _ | _ | _ | _ | _ | i
            · obtain rfl := Option.some.inj ho
              have q6 : ac.tmps.getD 6 undef = .slice (some ⟨g9, 0, none⟩) (qs.length + j) cap9 := hJ6
              clear hp he
              go_simp
              exact hK _ _ (fun _ => RowR.refl _ _ _) (getD_put_self ac 69 _ (by show _ < ac.tmps.size; omega)) ⟨hJ.other (by decide) (by decide) (by decide) id id id fun _ h => h, (getD_put_ne _ _ 6 _ (by decide)).trans hJ6⟩
            · obtain rfl := Option.some.inj ho
              have q7 : ac.tmps.getD 7 undef = .pointer (some ⟨V, 0, none⟩) := hf.at_ 7 (by kernel_rfl)
              clear hp he
              go_simp
              exact hK _ _ (fun _ => RowR.refl _ _ _) (getD_put_self ac 70 _ (by show _ < ac.tmps.size; omega)) ⟨hJ.other (by decide) (by decide) (by decide) id id id fun _ h => h, (getD_put_ne _ _ 6 _ (by decide)).trans hJ6⟩
            · obtain rfl := Option.some.inj ho
              have q70 : ac.tmps.getD 70 undef = .pointer (some ⟨V, 0, none⟩) := hp 1 _ rfl (he _ (Array.mem_of_getElem? (i := 0) rfl) (by kernel_rfl))
              clear hp he
              go_simp
              exact hK _ _ (fun _ => RowR.refl _ _ _) (getD_put_self ac 71 _ (by show _ < ac.tmps.size; omega)) ⟨hJ.other (by decide) (by decide) (by decide) id id id fun _ h => h, (getD_put_ne _ _ 6 _ (by decide)).trans hJ6⟩
            · obtain rfl := Option.some.inj ho
              have q71 : ac.tmps.getD 71 undef = .pointer (some ⟨V, 4, none⟩) := hp 2 _ rfl (he _ (Array.mem_of_getElem? (i := 0) rfl) (by kernel_rfl))
              have cc := hTu.c4
              clear hp he
              go_simp
              exact hK _ _ (fun _ => RowR.refl _ _ _) (getD_put_self ac 72 _ (by show _ < ac.tmps.size; omega)) ⟨hJ.other (by decide) (by decide) (by decide) id id id fun _ h => h, (getD_put_ne _ _ 6 _ (by decide)).trans hJ6⟩
            · obtain rfl := Option.some.inj ho
              have q11 : ac.tmps.getD 11 undef = .int .i64 j := hf.at_ 11 (by kernel_rfl)
              clear hp he
              go_simp
              exact hK _ _ (fun _ => RowR.refl _ _ _) (getD_put_self ac 73 _ (by show _ < ac.tmps.size; omega)) ⟨hJ.other (by decide) (by decide) (by decide) id id id fun _ h => h, (getD_put_ne _ _ 6 _ (by decide)).trans hJ6⟩
            · obtain rfl := Option.some.inj ho
              have q72 : ac.tmps.getD 72 undef = .slice (some ⟨b1, off1, none⟩) p.a.kids.length capa := hp 3 _ rfl (he _ (Array.mem_of_getElem? (i := 0) rfl) (by kernel_rfl))
              have q73 : ac.tmps.getD 73 undef = .int .i64 j := hp 4 _ rfl (he _ (Array.mem_of_getElem? (i := 1) rfl) (by kernel_rfl))
              clear hp he
              go_simp
              exact hK _ _ (fun _ => RowR.refl _ _ _) (getD_put_self ac 74 _ (by show _ < ac.tmps.size; omega)) ⟨hJ.other (by decide) (by decide) (by decide) id id id fun _ h => h, (getD_put_ne _ _ 6 _ (by decide)).trans hJ6⟩
            · obtain rfl := Option.some.inj ho
              have q74 : ac.tmps.getD 74 undef = .pointer (some ⟨b1, off1 + j * 5, none⟩) := hp 5 _ rfl (he _ (Array.mem_of_getElem? (i := 0) rfl) (by kernel_rfl))
              obtain ⟨c0, c1, c2, c3, c4⟩ := H5A.out
              rw [← hbw.cell (p := ⟨b1, off1 + j * 5, none⟩) (by show b1 < _; omega)] at c0
              rw [← hbw.cell (p := ⟨b1, off1 + j * 5 + 1, none⟩) (by show b1 < _; omega)] at c1
              rw [← hbw.cell (p := ⟨b1, off1 + j * 5 + 2, none⟩) (by show b1 < _; omega)] at c2
              rw [← hbw.cell (p := ⟨b1, off1 + j * 5 + 3, none⟩) (by show b1 < _; omega)] at c3
              rw [← hbw.cell (p := ⟨b1, off1 + j * 5 + 4, none⟩) (by show b1 < _; omega)] at c4
              clear hp he
              go_simp
              exact hK _ _ (fun _ => RowR.refl _ _ _) (getD_put_self ac 75 _ (by show _ < ac.tmps.size; omega)) ⟨hJ.other (by decide) (by decide) (by decide) id id id fun _ h => h, (getD_put_ne _ _ 6 _ (by decide)).trans hJ6⟩
            · obtain rfl := Option.some.inj ho
              have q7 : ac.tmps.getD 7 undef = .pointer (some ⟨V, 0, none⟩) := hf.at_ 7 (by kernel_rfl)
              clear hp he
              go_simp
              exact hK _ _ (fun _ => RowR.refl _ _ _) (getD_put_self ac 76 _ (by show _ < ac.tmps.size; omega)) ⟨hJ.other (by decide) (by decide) (by decide) id id id fun _ h => h, (getD_put_ne _ _ 6 _ (by decide)).trans hJ6⟩
            · obtain rfl := Option.some.inj ho
              have q76 : ac.tmps.getD 76 undef = .pointer (some ⟨V, 5, none⟩) := hp 7 _ rfl (he _ (Array.mem_of_getElem? (i := 0) rfl) (by kernel_rfl))
              clear hp he
              go_simp
              exact hK _ _ (fun _ => RowR.refl _ _ _) (getD_put_self ac 77 _ (by show _ < ac.tmps.size; omega)) ⟨hJ.other (by decide) (by decide) (by decide) id id id fun _ h => h, (getD_put_ne _ _ 6 _ (by decide)).trans hJ6⟩
            · obtain rfl := Option.some.inj ho
              have q77 : ac.tmps.getD 77 undef = .pointer (some ⟨V, 9, none⟩) := hp 8 _ rfl (he _ (Array.mem_of_getElem? (i := 0) rfl) (by kernel_rfl))
              have cc := hTu.c9
              clear hp he
              go_simp
              exact hK _ _ (fun _ => RowR.refl _ _ _) (getD_put_self ac 78 _ (by show _ < ac.tmps.size; omega)) ⟨hJ.other (by decide) (by decide) (by decide) id id id fun _ h => h, (getD_put_ne _ _ 6 _ (by decide)).trans hJ6⟩
            · obtain rfl := Option.some.inj ho
              have q11 : ac.tmps.getD 11 undef = .int .i64 j := hf.at_ 11 (by kernel_rfl)
              clear hp he
              go_simp
              exact hK _ _ (fun _ => RowR.refl _ _ _) (getD_put_self ac 79 _ (by show _ < ac.tmps.size; omega)) ⟨hJ.other (by decide) (by decide) (by decide) id id id fun _ h => h, (getD_put_ne _ _ 6 _ (by decide)).trans hJ6⟩
            · obtain rfl := Option.some.inj ho
              have q78 : ac.tmps.getD 78 undef = .slice (some ⟨b2, off2, none⟩) p.b.kids.length capb := hp 9 _ rfl (he _ (Array.mem_of_getElem? (i := 0) rfl) (by kernel_rfl))
              have q79 : ac.tmps.getD 79 undef = .int .i64 j := hp 10 _ rfl (he _ (Array.mem_of_getElem? (i := 1) rfl) (by kernel_rfl))
              clear hp he
              go_simp
              exact hK _ _ (fun _ => RowR.refl _ _ _) (getD_put_self ac 80 _ (by show _ < ac.tmps.size; omega)) ⟨hJ.other (by decide) (by decide) (by decide) id id id fun _ h => h, (getD_put_ne _ _ 6 _ (by decide)).trans hJ6⟩
            · obtain rfl := Option.some.inj ho
              have q80 : ac.tmps.getD 80 undef = .pointer (some ⟨b2, off2 + j * 5, none⟩) := hp 11 _ rfl (he _ (Array.mem_of_getElem? (i := 0) rfl) (by kernel_rfl))
              obtain ⟨c0, c1, c2, c3, c4⟩ := H5B.out
              rw [← hbw.cell (p := ⟨b2, off2 + j * 5, none⟩) (by show b2 < _; omega)] at c0
              rw [← hbw.cell (p := ⟨b2, off2 + j * 5 + 1, none⟩) (by show b2 < _; omega)] at c1
              rw [← hbw.cell (p := ⟨b2, off2 + j * 5 + 2, none⟩) (by show b2 < _; omega)] at c2
              rw [← hbw.cell (p := ⟨b2, off2 + j * 5 + 3, none⟩) (by show b2 < _; omega)] at c3
              rw [← hbw.cell (p := ⟨b2, off2 + j * 5 + 4, none⟩) (by show b2 < _; omega)] at c4
              clear hp he
              go_simp
              exact hK _ _ (fun _ => RowR.refl _ _ _) (getD_put_self ac 81 _ (by show _ < ac.tmps.size; omega)) ⟨hJ.other (by decide) (by decide) (by decide) id id id fun _ h => h, (getD_put_ne _ _ 6 _ (by decide)).trans hJ6⟩
            · obtain rfl := Option.some.inj ho
              have q75 : ac.tmps.getD 75 undef = .agg #[.int .i64 k.a.k, .int .i64 k.a.n, .int .i64 k.a.ak, .int .i64 k.a.at_, .slice adk k.a.kids.length ck] := hp 6 _ rfl (he _ (Array.mem_of_getElem? (i := 0) rfl) (by kernel_rfl))
              have q81 : ac.tmps.getD 81 undef = .agg #[.int .i64 k.b.k, .int .i64 k.b.n, .int .i64 k.b.ak, .int .i64 k.b.at_, .slice adl k.b.kids.length cl] := hp 12 _ rfl (he _ (Array.mem_of_getElem? (i := 1) rfl) (by kernel_rfl))
              have q75b : ac.tmps[75]?.getD undef = .agg #[.int .i64 k.a.k, .int .i64 k.a.n, .int .i64 k.a.ak, .int .i64 k.a.at_, .slice adk k.a.kids.length ck] := by rw [← q75]; exact (Array.getD_eq_getD_getElem? ..).symm
              have q81b : ac.tmps[81]?.getD undef = .agg #[.int .i64 k.b.k, .int .i64 k.b.n, .int .i64 k.b.ak, .int .i64 k.b.at_, .slice adl k.b.kids.length cl] := by rw [← q81]; exact (Array.getD_eq_getD_getElem? ..).symm
              have HZ : Hid (ac.tmps.size = 86) := hsz'
              clear hp he hsz' q75 q81
              go_simp
              have hsz' := HZ.out
              exact hK _ _ (fun _ => RowR.refl _ _ _) (getD_put_self ac 82 _ (by show _ < ac.tmps.size; omega)) ⟨hJ.other (by decide) (by decide) (by decide) id id id fun _ h => h, (getD_put_ne _ _ 6 _ (by decide)).trans hJ6⟩
            · obtain rfl := Option.some.inj ho
              have q82 : ac.tmps.getD 82 undef = .agg #[.int .i64 k.a.k, .int .i64 k.a.n, .int .i64 k.a.ak, .int .i64 k.a.at_, .slice adk k.a.kids.length ck, .int .i64 k.b.k, .int .i64 k.b.n, .int .i64 k.b.ak, .int .i64 k.b.at_, .slice adl k.b.kids.length cl] := hp 13 _ rfl (he _ (Array.mem_of_getElem? (i := 0) rfl) (by kernel_rfl))
              have q82b : ac.tmps[82]?.getD undef = .agg #[.int .i64 k.a.k, .int .i64 k.a.n, .int .i64 k.a.ak, .int .i64 k.a.at_, .slice adk k.a.kids.length ck, .int .i64 k.b.k, .int .i64 k.b.n, .int .i64 k.b.ak, .int .i64 k.b.at_, .slice adl k.b.kids.length cl] := by rw [← q82]; exact (Array.getD_eq_getD_getElem? ..).symm
              have HZ : Hid (ac.tmps.size = 86) := hsz'
              clear hp he hsz' q82
              go_simp
              have hsz' := HZ.out
              have g1 := (Below.refl u.heap.size u).alloc (Nat.le_refl _) (.cells #[.int .i64 k.a.k, .int .i64 k.a.n, .int .i64 k.a.ak, .int .i64 k.a.at_, .slice adk k.a.kids.length ck, .int .i64 k.b.k, .int .i64 k.b.n, .int .i64 k.b.ak, .int .i64 k.b.at_, .slice adl k.b.kids.length cl] 104)
              refine hK _ _ (fun _ => RowR.of_below g1) ⟨u.heap.size, getD_put_self ac 83 _ (by show _ < ac.tmps.size; omega), heap_alloc_new u _, hus, by simp⟩ ⟨hJ.other (by decide) (by decide) (by decide) id id (fun h => own_kept h fun q hq => g1.block q (by cases hq; exact Nat.lt_of_lt_of_le hr9.2.1 hus)) ?_, (getD_put_ne _ _ 6 _ (by decide)).trans hJ6⟩
              rintro v'' ⟨g', c', h1, h2, h3⟩
              refine ⟨g', c', h1, own_kept h2 fun q hq => g1.block q ?_, h3⟩
              rw [h1] at hq h2
              cases hq
              rcases h2.2 with ⟨h0, _⟩ | ⟨_, _, _, hv, _, hg, _⟩
              · cases h0
              · cases hv; exact (Array.getElem?_eq_some_iff.mp hg).1
            · obtain rfl := Option.some.inj ho
              have q69 : ac.tmps.getD 69 undef = .slice (some ⟨g9, 0, none⟩) (qs.length + j) cap9 := hp 0 _ rfl (he _ (Array.mem_of_getElem? (i := 0) rfl) (by kernel_rfl))
              obtain ⟨q, q83, hgb, hq1, hq2⟩ := hp 14 _ rfl (he _ (Array.mem_of_getElem? (i := 1) rfl) (by kernel_rfl))
              have q83 : ac.tmps.getD 83 undef = .slice (some ⟨q, 0, none⟩) 1 1 := q83
              have hown := hJ.2.2.1 hLi
              clear hp he
              refine step_append_lies _ rfl (.tmp 69) (.tmp 83) 105 rfl (w.heap.size + 3) 104 i0 (.agg #[.int .i64 0, .int .i64 0, .int .i64 0, .int .i64 0, .slice none 0 0, .int .i64 0, .int .i64 0, .int .i64 0, .int .i64 0, .slice none 0 0]) 10 112 Tryz.underlying105 hi0 hz0 hz1 hz2 rfl (by decide) (.slice (some ⟨g9, 0, none⟩) (qs.length + j) cap9) (qs.length + j) (rowP (qs ++ ks.take j)) q69 hown ⟨q, 0, none⟩ 1 1 [.int .i64 k.a.k, .int .i64 k.a.n, .int .i64 k.a.ak, .int .i64 k.a.at_, .slice adk k.a.kids.length ck, .int .i64 k.b.k, .int .i64 k.b.n, .int .i64 k.b.ak, .int .i64 k.b.at_, .slice adl k.b.kids.length cl] q83 rfl (World.news_of_block hgb) (by intro z hz; simp at hz; rcases hz with rfl | rfl | rfl | rfl | rfl | rfl | rfl | rfl | rfl | rfl <;> rfl) (by decide) (by unfold maxLen; omega) (by omega) (by omega) u.heap.size rfl ?_
              intro g' c' u1 hown' hgrow hat2 hlt2
              have gb := (Below.refl 0 u).grown hgrow (Nat.zero_le _) (fun _ _ => Nat.zero_le _)
              exact hK _ _ (fun _ => RowR.of_grown hgrow gb.os gb.tape gb.output) trivial ⟨hJ.app (by show 15 < L.size; rw [hLs]; decide) (by decide) (by show _ < ac.tmps.size; omega) id id ⟨g', c', rfl, hown', hat2.elim (fun h2 => Or.inl (by simp [Value.ownBlock] at h2; exact h2.symm)) (fun h2 => Or.inr (by omega))⟩, (getD_put_ne _ _ 6 _ (by decide)).trans hJ6⟩
            · omega
          · intro L ac u hf hR0 hp hJ K' hK
            obtain ⟨hJ, hJ6⟩ := hJ
            have hR : RowA (some g9) wr u := fun B => (RowR.of_below (Below.drew (Below.refl _ _))).trans (hR0 B)
            have hus := (hR 0).size
            obtain ⟨g', c', m84, hown', hg'⟩ := hJ.2.2.2 (hp 15 _ (by decide) rfl).1
            rw [m84] at hown'
            rw [← HKC.out] at hown'
            have hown2 : u.ownsRow (w.heap.size + 3) 104 10 (.slice (some ⟨g', 0, none⟩) ((qs ++ ks.take j).length + 1) c') ((qs ++ ks.take j).length + 1) (rowP (qs ++ ks.take j) ++ k.cells) := by rw [HPL.out]; exact hown'
            have HNX : Hid (AlikeN w w5 V (qs ++ ks.take (j + 1)) u g' c') := by
              have := HN9.out.next (u := u) (k := k) (by omega) (by omega) (by omega) hR hown2 hg'
              rw [List.take_add_one, HKJ.out]
              rw [List.append_assoc] at this
              exact this
            clear hp hJ hR0 hR hown' hown2 hg'
            obtain ⟨f, ea, hfv⟩ := act_lit ac 86 hf.size
            have md : ac.defers = [] := hf.defers
            rw [md] at ea
            have m0 := hf.at_ 0 (by kernel_rfl)
            have m1 := hf.at_ 1 (by kernel_rfl)
            have m2 := hf.at_ 2 (by kernel_rfl)
            have m3 := hf.at_ 3 (by kernel_rfl)
            have m4 := hf.at_ 4 (by kernel_rfl)
            have m5 := hf.at_ 5 (by kernel_rfl)
            have m7 := hf.at_ 7 (by kernel_rfl)
            have m8 := hf.at_ 8 (by kernel_rfl)
            have m9 := hf.at_ 9 (by kernel_rfl)
            have m10 := hf.at_ 10 (by kernel_rfl)
            have m11 := hf.at_ 11 (by kernel_rfl)
            have m12 := hf.at_ 12 (by kernel_rfl)
            have m13 := hf.at_ 13 (by kernel_rfl)
            have m14 := hf.at_ 14 (by kernel_rfl)
            have m15 := hf.at_ 15 (by kernel_rfl)
            have m16 := hf.at_ 16 (by kernel_rfl)
            have m17 := hf.at_ 17 (by kernel_rfl)
            have m18 := hf.at_ 18 (by kernel_rfl)
            have m19 := hf.at_ 19 (by kernel_rfl)
            have m20 := hf.at_ 20 (by kernel_rfl)
            have m21 := hf.at_ 21 (by kernel_rfl)
            have m22 := hf.at_ 22 (by kernel_rfl)
            have m23 := hf.at_ 23 (by kernel_rfl)
            have m24 := hf.at_ 24 (by kernel_rfl)
            have m25 := hf.at_ 25 (by kernel_rfl)
            have m26 := hf.at_ 26 (by kernel_rfl)
            have m27 := hf.at_ 27 (by kernel_rfl)
            have m28 := hf.at_ 28 (by kernel_rfl)
            have m29 := hf.at_ 29 (by kernel_rfl)
            have m30 := hf.at_ 30 (by kernel_rfl)
            have m31 := hf.at_ 31 (by kernel_rfl)
            have m32 := hf.at_ 32 (by kernel_rfl)
            have m33 := hf.at_ 33 (by kernel_rfl)
            have m34 := hf.at_ 34 (by kernel_rfl)
            have m35 := hf.at_ 35 (by kernel_rfl)
            have m36 := hf.at_ 36 (by kernel_rfl)
            have m37 := hf.at_ 37 (by kernel_rfl)
            have m38 := hf.at_ 38 (by kernel_rfl)
            have m39 := hf.at_ 39 (by kernel_rfl)
            have m40 := hf.at_ 40 (by kernel_rfl)
            have m41 := hf.at_ 41 (by kernel_rfl)
            have m42 := hf.at_ 42 (by kernel_rfl)
            have m43 := hf.at_ 43 (by kernel_rfl)
            have m44 := hf.at_ 44 (by kernel_rfl)
            have m45 := hf.at_ 45 (by kernel_rfl)
            have m46 := hf.at_ 46 (by kernel_rfl)
            have m47 := hf.at_ 47 (by kernel_rfl)
            have m48 := hf.at_ 48 (by kernel_rfl)
            have m49 := hf.at_ 49 (by kernel_rfl)
            have m50 := hf.at_ 50 (by kernel_rfl)
            have m51 := hf.at_ 51 (by kernel_rfl)
            have m52 := hf.at_ 52 (by kernel_rfl)
            have m53 := hf.at_ 53 (by kernel_rfl)
            have m54 := hf.at_ 54 (by kernel_rfl)
            have m55 := hf.at_ 55 (by kernel_rfl)
            have m56 := hf.at_ 56 (by kernel_rfl)
            have m57 := hf.at_ 57 (by kernel_rfl)
            have m58 := hf.at_ 58 (by kernel_rfl)
            have m59 := hf.at_ 59 (by kernel_rfl)
            have m60 := hf.at_ 60 (by kernel_rfl)
            have m61 := hf.at_ 61 (by kernel_rfl)
            have m62 := hf.at_ 62 (by kernel_rfl)
            have m63 := hf.at_ 63 (by kernel_rfl)
            have m64 := hf.at_ 64 (by kernel_rfl)
            have m65 := hf.at_ 65 (by kernel_rfl)
            have m66 := hf.at_ 66 (by kernel_rfl)
            have m67 := hf.at_ 67 (by kernel_rfl)
            have m68 := hf.at_ 68 (by kernel_rfl)
            have m85 := hf.at_ 85 (by kernel_rfl)
            rw [← hfv] at m0 m1 m2 m3 m4 m5 m7 m8 m9 m10 m11 m12 m13 m14 m15 m16 m17 m18 m19 m20 m21 m22 m23 m24 m25 m26 m27 m28 m29 m30 m31 m32 m33 m34 m35 m36 m37 m38 m39 m40 m41 m42 m43 m44 m45 m46 m47 m48 m49 m50 m51 m52 m53 m54 m55 m56 m57 m58 m59 m60 m61 m62 m63 m64 m65 m66 m67 m68 m85 m84
            simp only [Array.getD_eq_getD_getElem?, List.getElem?_toArray, List.getElem?_cons_succ, List.getElem?_cons_zero, Option.getD_some] at m0 m1 m2 m3 m4 m5 m7 m8 m9 m10 m11 m12 m13 m14 m15 m16 m17 m18 m19 m20 m21 m22 m23 m24 m25 m26 m27 m28 m29 m30 m31 m32 m33 m34 m35 m36 m37 m38 m39 m40 m41 m42 m43 m44 m45 m46 m47 m48 m49 m50 m51 m52 m53 m54 m55 m56 m57 m58 m59 m60 m61 m62 m63 m64 m65 m66 m67 m68 m85
            simp only [List.range, List.range.loop, List.map_cons, List.map_nil, m0, m1, m2, m3, m4, m5, m7, m8, m9, m10, m11, m12, m13, m14, m15, m16, m17, m18, m19, m20, m21, m22, m23, m24, m25, m26, m27, m28, m29, m30, m31, m32, m33, m34, m35, m36, m37, m38, m39, m40, m41, m42, m43, m44, m45, m46, m47, m48, m49, m50, m51, m52, m53, m54, m55, m56, m57, m58, m59, m60, m61, m62, m63, m64, m65, m66, m67, m68, m85, m84] at ea
            subst ea
            clear m0 m1 m2 m3 m4 m5 m7 m8 m9 m10 m11 m12 m13 m14 m15 m16 m17 m18 m19 m20 m21 m22 m23 m24 m25 m26 m27 m28 m29 m30 m31 m32 m33 m34 m35 m36 m37 m38 m39 m40 m41 m42 m43 m44 m45 m46 m47 m48 m49 m50 m51 m52 m53 m54 m55 m56 m57 m58 m59 m60 m61 m62 m63 m64 m65 m66 m67 m68 m85 m84 hfv md hf
            go_simp
            refine hK _ _ ?_
            clear hK
            go_wp2
            go_roundw
            case rel => exact ⟨j + 1, g', c', by go_num, by omega, by rw [Nat.add_assoc], HNX.out⟩
            case measure => simp [intOf]; omega
        · have hjl' : ¬ (j : Int) < (p.a.kids.length : Int) := by omega
          obtain rfl : j = p.a.kids.length := by omega
          have hsum9 := HKS.out.sum
          have hlen9 : (qs ++ ks).length = qs.length + p.a.kids.length := by rw [List.length_append, HKS.out.len]
          have HEND : Hid (AlikeI w (a = b) lo' hi' 1048577 wr g9 cap9 (qs ++ ks)) := by
            have hN := HN9.out
            rw [show ks.take p.a.kids.length = ks by rw [← HKS.out.len, List.take_length]] at hN
            obtain ⟨es9, cl9, hm9, hes9⟩ := HM5.out
            refine ⟨hN.below, hN.own, ⟨es9, cl9, hN.mapb.trans hm9, fun x hx => ?_⟩, fun x hx => ?_, ?_, ?_⟩
            · obtain ⟨b', off', q', n', f1, f2, f3, f4, f5⟩ := hes9 x hx
              refine ⟨b', off', q', n', f1, f2, f3, fun y hy => ?_⟩
              rcases List.mem_append.1 hy with hy | hy
              · exact f4 y hy
              · exact f5 y hy
            · rcases List.mem_append.1 hx with hx | hx
              · exact HITS.out x hx
              · exact HKS.out.ok x hx
            · rw [List.pairwise_append]
              refine ⟨HDS.out, HKS.out.dis, fun x hx y hy => ?_⟩
              have h1 := HDQ.out x hx
              have h2 := HKS.out.rng y hy
              omega
            · rw [HIF.out]
              constructor
              · intro h x hx
                rcases List.mem_append.1 hx with hx | hx
                · exact h x (List.mem_append_left _ hx)
                · exact (HKS.out.eq hbare).1 (h p (by simp)) x hx
              · intro h x hx
                rcases List.mem_append.1 hx with hx | hx
                · exact h x (List.mem_append_left _ hx)
                · rw [List.mem_singleton] at hx
                  subst hx
                  exact (HKS.out.eq hbare).2 fun k hk => h k (List.mem_append_right _ hk)
          have hse : sumE (qs ++ ks) < gk := by rw [sumE_append]; omega
          clear HN9 HM5 HT5 HKS
          go_wp2
          go_roundg (sumE (qs ++ ks))
          case measure => omega
          case rel => exact ⟨g9, cap9, qs ++ ks, by rw [hlen9], Nat.le_refl _, by omega, HEND.out⟩
end Go.Proofs.YtkeockippmmneaaGreat
