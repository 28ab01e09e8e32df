/-
  The model's copy of what is reckoned (l3Copy), for seats without draws.
-/
import Derived.Test.YtkeockippmmneaaGreatQS6
import Derived.Test.YtkeockippmmneaaGreatKidsKit
import Derived.Test.YtkeockippmmneaaGreatQS7
import Derived.Deep.AppendLies
namespace Go.Proofs.YtkeockippmmneaaGreat
open Go.ChangeShapes Go.WideShapes Go.ChangeAt Go.RowKit
set_option linter.unusedVariables false
set_option maxRecDepth 100000

theorem RowR.five {B : Nat} {row : Option Nat} {u u' : World} (h : RowR B row u u') {E : Nat} {v0 v1 v2 v3 v4 : Value} (hF : Five u E v0 v1 v2 v3 v4) (h1 : E < u.heap.size) (h2 : E ≠ B) (h3 : some E ≠ row) : Five u' E v0 v1 v2 v3 v4 := by
  have hk := h.block E h1 h2 h3
  exact ⟨by rw [World.cell?_of_block (w := u) hk]; exact hF.c0, by rw [World.cell?_of_block (w := u) hk]; exact hF.c1, by rw [World.cell?_of_block (w := u) hk]; exact hF.c2, by rw [World.cell?_of_block (w := u) hk]; exact hF.c3, by rw [World.cell?_of_block (w := u) hk]; exact hF.c4, fun o => by rw [World.frozen?_of_block (w := u) hk]; exact hF.f o⟩
theorem RowR.ko {B : Nat} {row : Option Nat} {u u' : World} (h : RowR B row u u') {lo hi : Nat} {v : Value} {es : List ExprD} (hk : KO u lo hi v es) (h1 : B < lo) (h2 : ∀ k, row = some k → k < lo) (h3 : hi ≤ u.heap.size) : KO u' lo hi v es :=
  hk.kept fun k a b => h.block k (by omega) (by omega) fun e => by have := h2 k e.symm; omega

/-- The row with one part more. -/
theorem kp_append {B base : Nat} {wr u u1 : World} {v : Value} {ps : List (ExprD × Value)} {l h : Nat → Nat} (k : KP u base v ps l h) {e : ExprD} {s : Value} {lo hi g c : Nat} (hbs : base ≤ u.heap.size)
    (hrow : ∀ j, v.ownBlock = some j → j < lo) (hlh : ∀ i, i < ps.length → h i ≤ lo) (hl1 : lo ≤ hi) (hl2 : hi ≤ u.heap.size) (hbl : base ≤ lo) (hko : KO u lo hi s e.kids) (hg : u.grownBy u1 v.ownBlock)
    (hown : u1.ownsRow base 42 5 (.slice (some ⟨g, 0, none⟩) (ps.length + 1) c) (ps.length + 1) (rowE ps ++ [.int .i64 e.k, .int .i64 e.n, .int .i64 e.ak, .int .i64 e.at_, s])) (hat : v.ownBlock = some g ∨ g = u.heap.size) :
    KP u1 base (.slice (some ⟨g, 0, none⟩) (ps.length + 1) c) (ps ++ [(e, s)]) (fun i => if i = ps.length then lo else l i) (fun i => if i = ps.length then hi else h i) := by
  have hus := hg.size
  have hne : ∀ i, i < ps.length → ∀ q, l i ≤ q → q < h i → some q ≠ v.ownBlock := fun i hi q h1 h2 hq => by
    have := k.off i q hi hq.symm
    omega
  refine ⟨by rw [rowE_snoc, List.length_append]; exact hown, fun i p hp => ?_, fun i hi => ?_, fun i g' hi hv => ?_, fun i j hij hj => ?_⟩
  · by_cases hil : i < ps.length
    · rw [List.getElem?_append_left hil] at hp
      have hr := k.rng i hil
      simp only [if_neg (Nat.ne_of_lt hil)]
      exact (k.kids i p hp).kept fun q h1 h2 => hg.block q (by omega) (hne i hil q h1 h2)
    · rw [List.getElem?_append_right (by omega)] at hp
      have : i = ps.length := by
        have := (List.getElem?_eq_some_iff.mp hp).1
        simp at this
        omega
      subst this
      simp at hp
      subst hp
      simp only [if_true]
      refine hko.kept fun q h1 h2 => hg.block q (by omega) fun hq => ?_
      have := hrow q hq.symm
      omega
  · simp only [List.length_append, List.length_cons, List.length_nil] at hi
    by_cases hil : i < ps.length
    · simp only [if_neg (Nat.ne_of_lt hil)]
      have := k.rng i hil
      omega
    · obtain rfl : i = ps.length := by omega
      simp only [if_true]
      omega
  · simp only [Value.ownBlock, Option.some.injEq] at hv
    subst hv
    simp only [List.length_append, List.length_cons, List.length_nil] at hi
    by_cases hil : i < ps.length
    · simp only [if_neg (Nat.ne_of_lt hil)]
      have := k.rng i hil
      rcases hat with h1 | h1
      · exact k.off i g hil h1
      · omega
    · obtain rfl : i = ps.length := by omega
      simp only [if_true]
      rcases hat with h1 | h1
      · have := hrow g h1; omega
      · omega
  · simp only [List.length_append, List.length_cons, List.length_nil] at hj
    have hi : i < ps.length := by omega
    simp only [if_neg (Nat.ne_of_lt hi)]
    by_cases hjl : j < ps.length
    · simp only [if_neg (Nat.ne_of_lt hjl)]; exact k.dis i j hij hjl
    · obtain rfl : j = ps.length := by omega
      simp only [if_true]
      exact hlh i hi

theorem RowA.five {row : Option Nat} {u u' : World} (h : RowA row u u') {E : Nat} {v0 v1 v2 v3 v4 : Value} (hF : Five u E v0 v1 v2 v3 v4) (h1 : E < u.heap.size) (h3 : some E ≠ row) : Five u' E v0 v1 v2 v3 v4 := (h (E + 1)).five hF h1 (by omega) h3

/-- What holds ahead of a round that copies a kid: j are copied. -/
structure KidC (w : World) (e : ExprD) (s : Value) (base j : Nat) (wr : World) (v : Value) (ps : List (ExprD × Value)) (l h : Nat → Nat) : Prop where
  below : Below w.heap.size w wr
  arg : Five wr w.heap.size (.int .i64 e.k) (.int .i64 e.n) (.int .i64 e.ak) (.int .i64 e.at_) s
  res : Five wr (w.heap.size + 1) (.int .i64 0) (.int .i64 0) (.int .i64 0) (.int .i64 0) (.slice none 0 0)
  box : Five wr (w.heap.size + 2) (.int .i64 e.k) (.int .i64 e.n) (.int .i64 e.ak) (.int .i64 e.at_) v
  kp : KP wr base v ps l h
  lt : w.heap.size + 2 < base ∧ base ≤ wr.heap.size
  done : ps.map Prod.fst = e.kids.take j

theorem KidC.next {w : World} {e : ExprD} {s : Value} {base j : Nat} {wr u : World} {v v' : Value} {ps : List (ExprD × Value)} {l h l' h' : Nat → Nat} {x : ExprD} {t : Value}
    (k : KidC w e s base j wr v ps l h) (hx : e.kids[j]? = some x) (hR : RowA v.ownBlock wr u) (hkp : KP u base v' (ps ++ [(x, t)]) l' h') :
    KidC w e s base (j + 1) (u.setCell ⟨w.heap.size + 2, 4, none⟩ v') v' (ps ++ [(x, t)]) l' h' := by
  have hlt := k.lt
  have hsz := (hR 0).size
  have hne : ∀ i, i < base → some i ≠ v.ownBlock := fun i hi e => by have := (k.kp.size i e.symm).1; omega
  have hb : Below w.heap.size w u := ⟨(hR 0).os.trans k.below.os, (hR 0).tape.trans k.below.tape, (hR 0).output.trans k.below.output, Nat.le_trans k.below.size hsz, fun i hi => by
    have := k.below.size
    rw [hR.block i (by omega) (hne i (by omega))]; exact k.below.block i hi⟩
  refine ⟨hb.setCell (by show w.heap.size ≤ w.heap.size + 2; omega) _, (hR.five k.arg (by omega) (hne _ (by omega))).other _ (by omega), (hR.five k.res (by omega) (hne _ (by omega))).other _ (by omega), (hR.five k.box (by omega) (hne _ (by omega))).set4 _, hkp.kept (fun i h1 h2 => Below.heap_setCell _ _ _ _ (by show i ≠ w.heap.size + 2; omega)) (by rw [World.size_setCell]; exact Nat.le_refl _), by rw [World.size_setCell]; omega, ?_⟩
  rw [List.map_append, k.done, List.take_add_one, hx]; rfl

/-- What l3Copy answers, of a tree with at most m parts below it. -/
def CopyS (m : Nat) : Prop := ∀ (w : World) (lo hi : Nat) (v : Value) (e : ExprD), ER w lo hi v e → hi ≤ w.heap.size → manyL e.kids ≤ m → manyL e.kids ≤ 1048576 →
  Calls Tryz.prog 24 #[v] w fun en w' => ∃ v', en = .returned v' ∧ EO w' w.heap.size w'.heap.size v' e ∧ Below w.heap.size w w'

set_option maxHeartbeats 8000000 in
theorem copy_step {m : Nat} (H : ∀ m', m' < m → CopyS m') : CopyS m := by
  intro w lo hi v e h hhi hm hbig
  obtain ⟨s, rfl, hk⟩ := h
  obtain ⟨ad, cap, rfl, hc1, hc2⟩ := hk.shape
  have hle := length_le_manyL e.kids
  have hmx : e.kids.length ≤ 9223372036854775807 := by omega
  have HK : Hid (KR w lo hi (.slice ad e.kids.length cap) e.kids) := hk
  clear hk hc1 hc2
  obtain ⟨i0, hi0, hz0, hz1, hz2⟩ := info_parts info_expr
  obtain ⟨u0, hu0, G0, P0, R0, V0, S0⟩ : ∃ u0, ((w.alloc (.cells #[.int .i64 e.k, .int .i64 e.n, .int .i64 e.ak, .int .i64 e.at_, .slice ad e.kids.length cap] 42)).alloc (.cells #[.int .i64 0, .int .i64 0, .int .i64 0, .int .i64 0, .slice none 0 0] 42)).alloc (.cells #[.int .i64 e.k, .int .i64 e.n, .int .i64 e.ak, .int .i64 e.at_, .slice none 0 0] 42) = u0 ∧
      Below w.heap.size w u0 ∧ Five u0 w.heap.size (.int .i64 e.k) (.int .i64 e.n) (.int .i64 e.ak) (.int .i64 e.at_) (.slice ad e.kids.length cap) ∧ Five u0 (w.heap.size + 1) (.int .i64 0) (.int .i64 0) (.int .i64 0) (.int .i64 0) (.slice none 0 0) ∧ Five u0 (w.heap.size + 2) (.int .i64 e.k) (.int .i64 e.n) (.int .i64 e.ak) (.int .i64 e.at_) (.slice none 0 0) ∧ u0.heap.size = w.heap.size + 3 := by
    obtain ⟨w1, hw1⟩ : ∃ w1, w.alloc (.cells #[.int .i64 e.k, .int .i64 e.n, .int .i64 e.ak, .int .i64 e.at_, .slice ad e.kids.length cap] 42) = w1 := ⟨_, rfl⟩
    have n1 := five_new w (.int .i64 e.k) (.int .i64 e.n) (.int .i64 e.ak) (.int .i64 e.at_) (.slice ad e.kids.length cap) 42
    have g1 : Below w.heap.size w w1 := by rw [← hw1]; exact (Below.refl _ _).alloc (Nat.le_refl _) _
    have s1 : w1.heap.size = w.heap.size + 1 := by rw [← hw1]; simp
    rw [hw1] at n1 ⊢
    obtain ⟨w2, hw2⟩ : ∃ w2, w1.alloc (.cells #[.int .i64 0, .int .i64 0, .int .i64 0, .int .i64 0, .slice none 0 0] 42) = w2 := ⟨_, rfl⟩
    have n2 := five_new w1 (.int .i64 0) (.int .i64 0) (.int .i64 0) (.int .i64 0) (.slice none 0 0) 42
    have g2 : Below w1.heap.size w1 w2 := by rw [← hw2]; exact (Below.refl _ _).alloc (Nat.le_refl _) _
    have s2 : w2.heap.size = w1.heap.size + 1 := by rw [← hw2]; simp
    rw [hw2] at n2 ⊢
    have g3 : Below w2.heap.size w2 (w2.alloc (.cells #[.int .i64 e.k, .int .i64 e.n, .int .i64 e.ak, .int .i64 e.at_, .slice none 0 0] 42)) := (Below.refl _ _).alloc (Nat.le_refl _) _
    have n3 := five_new w2 (.int .i64 e.k) (.int .i64 e.n) (.int .i64 e.ak) (.int .i64 e.at_) (.slice none 0 0) 42
    refine ⟨_, rfl, (g1.trans (g2.mono (by omega))).trans (g3.mono (by omega)), (n1.under g2 (by omega)).under g3 (by omega), ?_, ?_, by rw [World.size_alloc]; omega⟩
    · have := n2.under g3 (by omega)
      rwa [s1] at this
    · rwa [show w2.heap.size = w.heap.size + 2 by omega] at n3
  have HU0 : Hid (_ = u0) := hu0
  clear hu0
  have hI : KidC w e (.slice ad e.kids.length cap) u0.heap.size 0 u0 (.slice none 0 0) [] (fun _ => 0) (fun _ => 0) := ⟨G0, P0, R0, V0, KP.nil _ _, by omega, rfl⟩
  obtain ⟨base, hbase⟩ : ∃ base, u0.heap.size = base := ⟨_, rfl⟩
  rw [hbase] at hI
  have HII : Hid (KidC w e (.slice ad e.kids.length cap) base 0 u0 (.slice none 0 0) [] (fun _ => 0) (fun _ => 0)) := hI
  clear hI G0 P0 R0 V0
  have hS0 : base = w.heap.size + 3 := by omega
  clear hbase S0
  go_enter Tryz.func24, Tryz.ntmps24
  go_wp2_with fail
  rw [HU0.out]
  clear HU0
  go_loopw [4] (fun i wr => ∃ (j : Nat) (v : Value) (ps : List (ExprD × Value)) (l h : Nat → Nat), i = .int .i64 j ∧ j ≤ e.kids.length ∧ KidC w e (.slice ad e.kids.length cap) base j wr v ps l h) (fun i _ => e.kids.length - (intOf i).toNat)
  case atStart => exact ⟨0, _, _, _, _, rfl, Nat.zero_le _, HII.out⟩
  case round =>
    clear HII
    obtain ⟨j, v, ps, l, h, rfl, hj, hI⟩ := hrel
    obtain ⟨adv, nv, cv, rfl⟩ : ∃ a n c, v = .slice a n c := by
      rcases hI.kp.own.2 with ⟨rfl, _⟩ | ⟨g, cap, cur, rfl, _⟩
      · exact ⟨_, _, _, rfl⟩
      · exact ⟨_, _, _, rfl⟩
    have hlt := hI.lt
    have hpl : ps.length = j := by have := congrArg List.length hI.done; rw [List.length_map, List.length_take] at this; omega
    have a4 := hI.arg.c4
    by_cases hjl : j < e.kids.length
    · have hjl' : (j : Int) < (e.kids.length : Int) := by omega
      obtain ⟨x, hx⟩ : ∃ x, e.kids[j]? = some x := ⟨e.kids[j], List.getElem?_eq_getElem hjl⟩
      obtain ⟨b, off, cap', sx, hv, hb1, hb2, h5, hkx⟩ := HK.out.at_ hx
      simp only [Value.slice.injEq, true_and] at hv
      obtain ⟨rfl, rfl⟩ := hv
      obtain ⟨ads, cps, rfl, _, _⟩ := hkx.shape
      have hkl := kid_lt hx
      have hrow : ∀ g, (Value.slice adv nv cv).ownBlock = some g → base ≤ g ∧ g < wr.heap.size := fun g hg => hI.kp.size g hg
      have hne : ∀ i, i < base → some i ≠ (Value.slice adv nv cv).ownBlock := fun i hi e => by have := (hrow i e.symm).1; omega
      have HI : Hid (KidC w e (.slice (some ⟨b, off, none⟩) e.kids.length cap) base j wr (.slice adv nv cv) ps l h) := hI
      have HX : Hid (e.kids[j]? = some x) := hx
      have H5 : Hid (Cell5 w b (off + j * 5) x (.slice ads x.kids.length cps)) := h5
      have HKX : Hid (KR w lo hi (.slice ads x.kids.length cps) x.kids) := hkx
      clear hI hx h5 hkx
      go_wp2_with fail
      clear a4
      refine wp_region_last (R := RowA (Value.slice adv nv cv).ownBlock) (Φ := fun i v u => match i with
          | 0 => v = .pointer (some ⟨w.heap.size + 2, 4, none⟩)
          | 1 => v = .slice adv nv cv
          | 2 => v = .pointer (some ⟨w.heap.size, 4, none⟩)
          | 3 => v = .slice (some ⟨b, off, none⟩) e.kids.length cap
          | 4 => v = .int .i64 j
          | 5 => v = .pointer (some ⟨b, off + j * 5, none⟩)
          | 6 => v = .agg #[.int .i64 x.k, .int .i64 x.n, .int .i64 x.ak, .int .i64 x.at_, .slice ads x.kids.length cps]
          | 7 => ∃ s lo hi, v = .agg #[.int .i64 x.k, .int .i64 x.n, .int .i64 x.ak, .int .i64 x.at_, s] ∧ KO u lo hi s x.kids ∧ wr.heap.size ≤ lo ∧ lo ≤ hi ∧ hi ≤ u.heap.size
          | 8 => ∃ g s lo hi, v = .slice (some ⟨g, 0, none⟩) 1 1 ∧ u.heap[g]? = some (.cells #[.int .i64 x.k, .int .i64 x.n, .int .i64 x.ak, .int .i64 x.at_, s] 42) ∧ KO u lo hi s x.kids ∧ wr.heap.size ≤ lo ∧ lo ≤ hi ∧ hi ≤ g ∧ g < u.heap.size
          | 10 => v = .pointer (some ⟨w.heap.size + 2, 4, none⟩)
          | _ => True)
        (J := KidJ 7 9 28 (fun _ => True) (fun _ => True) (fun u => KP u base (.slice adv nv cv) ps l h) (fun v u => ∃ g c s l' h', v = .slice (some ⟨g, 0, none⟩) (ps.length + 1) c ∧ KP u base v (ps ++ [(x, s)]) l' h'))
        11 _ rfl rfl (by kernel_rfl) (by kernel_rfl) (by kernel_rfl) (by kernel_rfl) (fun _ => RowR.refl _ _ _) (fun _ _ _ h k B => (h B).trans (k B)) ?_ ?_ ?_ ?_
      · intro i v u u' hr
        have hs := (hr 0).size
        match i with
        | 0 | 1 | 2 | 3 | 4 | 5 | 6 | 9 | 10 | _ + 11 => exact fun h => h
        | 7 => exact fun ⟨s, lo, hi, h1, h2, h4, h5, h6⟩ => ⟨s, lo, hi, h1, h2.kept fun k h7 h8 => hr.block k (by omega) fun e => by have := (hrow k e.symm).2; omega, h4, h5, by omega⟩
        | 8 => exact fun ⟨g, s, lo, hi, h1, h2, h3, h5, h6, h7, h8⟩ => ⟨g, s, lo, hi, h1, by rw [hr.block g h8 fun e => by have := (hrow g e.symm).2; omega]; exact h2, h3.kept fun k h9 h10 => hr.block k (by omega) fun e => by have := (hrow k e.symm).2; omega, h5, h6, h7, by omega⟩
      · have g0 : Below wr.heap.size wr wr.drew := Below.drew (Below.refl _ _)
        exact ⟨fun _ => trivial, fun _ => trivial, fun _ => HI.out.kp.kept (fun k _ hk => g0.block k hk) g0.size, fun h => by simp at h⟩
      · intro i o ho hin L ac u hf hR0 hLs hLi hp he hJ K' hK
        have hR : RowA (Value.slice adv nv cv).ownBlock wr u := fun B => (RowR.of_below (Below.drew (Below.refl _ _))).trans (hR0 B)
        have hsz' : ac.tmps.size = 31 := hf.size
        have hus := (hR 0).size
        have hws := HI.out.below.size
        have hb : Below w.heap.size w u := ⟨(hR 0).os.trans HI.out.below.os, (hR 0).tape.trans HI.out.below.tape, (hR 0).output.trans HI.out.below.output, by omega, fun i hi => by rw [hR.block i (by omega) (hne i (by omega))]; exact HI.out.below.block i hi⟩
        rcases i with _ | _ | _ | _ | _ | _ | _ | _ | _ | _ | _ | i
        · obtain rfl := Option.some.inj ho
          have q3 : ac.tmps.getD 3 undef = .pointer (some ⟨w.heap.size + 2, 0, none⟩) := hf.at_ 3 (by kernel_rfl)
          clear hp he
          go_simp
          exact hK _ _ (fun _ => RowR.refl _ _ _) (getD_put_self ac 19 _ (by show _ < ac.tmps.size; omega)) (hJ.other (by decide) (by decide) (by decide) id id id fun _ h => h)
        · obtain rfl := Option.some.inj ho
          have q19 : ac.tmps.getD 19 undef = .pointer (some ⟨w.heap.size + 2, 4, none⟩) := hp 0 _ rfl (he _ (Array.mem_of_getElem? (i := 0) rfl) (by kernel_rfl))
          have c4 := (hR.five HI.out.box (by omega) (hne _ (by omega))).c4
          clear hp he
          go_simp
          exact hK _ _ (fun _ => RowR.refl _ _ _) (getD_put_self ac 20 _ (by show _ < ac.tmps.size; omega)) (hJ.other (by decide) (by decide) (by decide) id id id fun _ h => h)
        · obtain rfl := Option.some.inj ho
          have q1 : ac.tmps.getD 1 undef = .pointer (some ⟨w.heap.size, 0, none⟩) := hf.at_ 1 (by kernel_rfl)
          clear hp he
          go_simp
          exact hK _ _ (fun _ => RowR.refl _ _ _) (getD_put_self ac 21 _ (by show _ < ac.tmps.size; omega)) (hJ.other (by decide) (by decide) (by decide) id id id fun _ h => h)
        · obtain rfl := Option.some.inj ho
          have q21 : ac.tmps.getD 21 undef = .pointer (some ⟨w.heap.size, 4, none⟩) := hp 2 _ rfl (he _ (Array.mem_of_getElem? (i := 0) rfl) (by kernel_rfl))
          have c4 := (hR.five HI.out.arg (by omega) (hne _ (by omega))).c4
          clear hp he
          go_simp
          exact hK _ _ (fun _ => RowR.refl _ _ _) (getD_put_self ac 22 _ (by show _ < ac.tmps.size; omega)) (hJ.other (by decide) (by decide) (by decide) id id id fun _ h => h)
        · obtain rfl := Option.some.inj ho
          have q4 : ac.tmps.getD 4 undef = .int .i64 j := hf.at_ 4 (by kernel_rfl)
          clear hp he
          go_simp
          exact hK _ _ (fun _ => RowR.refl _ _ _) (getD_put_self ac 23 _ (by show _ < ac.tmps.size; omega)) (hJ.other (by decide) (by decide) (by decide) id id id fun _ h => h)
        · obtain rfl := Option.some.inj ho
          have q22 : ac.tmps.getD 22 undef = .slice (some ⟨b, off, none⟩) e.kids.length cap := hp 3 _ rfl (he _ (Array.mem_of_getElem? (i := 0) rfl) (by kernel_rfl))
          have q23 : ac.tmps.getD 23 undef = .int .i64 j := hp 4 _ rfl (he _ (Array.mem_of_getElem? (i := 1) rfl) (by kernel_rfl))
          clear hp he
          go_simp
          exact hK _ _ (fun _ => RowR.refl _ _ _) (getD_put_self ac 24 _ (by show _ < ac.tmps.size; omega)) (hJ.other (by decide) (by decide) (by decide) id id id fun _ h => h)
        · obtain rfl := Option.some.inj ho
          have q24 : ac.tmps.getD 24 undef = .pointer (some ⟨b, off + j * 5, none⟩) := hp 5 _ rfl (he _ (Array.mem_of_getElem? (i := 0) rfl) (by kernel_rfl))
          obtain ⟨c0, c1, c2, c3, c4⟩ := H5.out
          rw [← hb.cell (p := ⟨b, off + j * 5, none⟩) (by show b < _; omega)] at c0
          rw [← hb.cell (p := ⟨b, off + j * 5 + 1, none⟩) (by show b < _; omega)] at c1
          rw [← hb.cell (p := ⟨b, off + j * 5 + 2, none⟩) (by show b < _; omega)] at c2
          rw [← hb.cell (p := ⟨b, off + j * 5 + 3, none⟩) (by show b < _; omega)] at c3
          rw [← hb.cell (p := ⟨b, off + j * 5 + 4, none⟩) (by show b < _; omega)] at c4
          clear hp he
          go_simp
          exact hK _ _ (fun _ => RowR.refl _ _ _) (getD_put_self ac 25 _ (by show _ < ac.tmps.size; omega)) (hJ.other (by decide) (by decide) (by decide) id id id fun _ h => h)
        · obtain rfl := Option.some.inj ho
          have q25 : ac.tmps.getD 25 undef = .agg #[.int .i64 x.k, .int .i64 x.n, .int .i64 x.ak, .int .i64 x.at_, .slice ads x.kids.length cps] := hp 6 _ rfl (he _ (Array.mem_of_getElem? (i := 0) rfl) (by kernel_rfl))
          have hC := H (manyL x.kids) (by omega) u lo hi _ x ⟨_, rfl, HKX.out.under hb hhi⟩ (by omega) (Nat.le_refl _) (by omega)
          clear hp he
          go_simp
          refine hC.mono ?_
          rintro e1 u' ⟨v', rfl, ⟨s', rfl, hko⟩, g1⟩
          refine hK _ _ (fun _ => RowR.of_below g1) ⟨s', _, _, getD_put_self ac 26 _ (by show _ < ac.tmps.size; omega), hko, by omega, g1.size, Nat.le_refl _⟩ (hJ.call (by show 7 < L.size; rw [hLs]; decide) (by decide) (by decide) trivial (fun h => h.kept (fun k h1 h2 => g1.block k h2) g1.size) ?_)
          rintro v'' ⟨g, c, s', l', h', h1, h2⟩
          exact ⟨g, c, s', l', h', h1, h2.kept (fun k h1 h2 => g1.block k h2) g1.size⟩
        · obtain rfl := Option.some.inj ho
          obtain ⟨s, lo1, hi1, q26, hko, h4, h5, h6⟩ := hp 7 _ rfl (he _ (Array.mem_of_getElem? (i := 0) rfl) (by kernel_rfl))
          have q26 : ac.tmps.getD 26 undef = .agg #[.int .i64 x.k, .int .i64 x.n, .int .i64 x.ak, .int .i64 x.at_, s] := q26
          have q26b : ac.tmps[26]?.getD undef = .agg #[.int .i64 x.k, .int .i64 x.n, .int .i64 x.ak, .int .i64 x.at_, s] := by rw [← q26]; exact (Array.getD_eq_getD_getElem? ..).symm
          have HZ : Hid (ac.tmps.size = 31) := hsz'
          obtain ⟨ads', cps', rfl, _, _⟩ := hko.kr.shape
          clear hp he hsz' q26
          go_simp
          have hsz' := HZ.out
          have g1 : Below u.heap.size u (u.alloc (.cells #[.int .i64 x.k, .int .i64 x.n, .int .i64 x.ak, .int .i64 x.at_, .slice ads' x.kids.length cps'] 42)) := (Below.refl _ _).alloc (Nat.le_refl _) _
          refine hK _ _ (fun _ => RowR.of_below g1) ⟨u.heap.size, _, lo1, hi1, getD_put_self ac 27 _ (by show _ < ac.tmps.size; omega), heap_alloc_new u _, hko.under g1 h6, h4, h5, h6, by simp⟩ (hJ.other (by decide) (by decide) (by decide) id id (fun h => h.kept (fun k _ h2 => g1.block k h2) g1.size) ?_)
          rintro v'' ⟨g, c, s', l', h', h1, h2⟩
          exact ⟨g, c, s', l', h', h1, h2.kept (fun k _ h2 => g1.block k h2) g1.size⟩
        · obtain rfl := Option.some.inj ho
          have q20 : ac.tmps.getD 20 undef = .slice adv nv cv := hp 1 _ rfl (he _ (Array.mem_of_getElem? (i := 0) rfl) (by kernel_rfl))
          obtain ⟨g, s, lo1, hi1, q27, hgb, hko, h4, h5, h6, h7⟩ := hp 8 _ rfl (he _ (Array.mem_of_getElem? (i := 1) rfl) (by kernel_rfl))
          have q27 : ac.tmps.getD 27 undef = .slice (some ⟨g, 0, none⟩) 1 1 := q27
          have hkp := hJ.2.2.1 hLi
          clear hp he
          refine step_append_lies _ rfl (.tmp 20) (.tmp 27) 40 rfl base 42 i0 (.agg #[.int .i64 0, .int .i64 0, .int .i64 0, .int .i64 0, .slice none 0 0]) 5 56 Tryz.underlying40 hi0 hz0 hz1 hz2 rfl (by decide) (.slice adv nv cv) ps.length (rowE ps) q20 hkp.own ⟨g, 0, none⟩ 1 1 [.int .i64 x.k, .int .i64 x.n, .int .i64 x.ak, .int .i64 x.at_, s] q27 rfl (World.news_of_block hgb) (by intro q hq; simp at hq; rcases hq with rfl | rfl | rfl | rfl | rfl <;> first | rfl | (obtain ⟨_, _, rfl, _, _⟩ := hko.kr.shape; rfl)) (by decide) (by unfold maxLen; omega) (by omega) (by omega) u.heap.size rfl ?_
          intro g' c' u1 hown' hgrow hat2 hlt2
          have gb := (Below.refl 0 u).grown hgrow (Nat.zero_le _) (fun _ _ => Nat.zero_le _)
          have hK1 := kp_append (B := 0) (wr := wr) hkp (e := x) (s := s) (lo := lo1) (hi := hi1) (by omega) (fun j hj => by have := (hrow j hj).2; omega) (fun i hi => by have := (HI.out.kp.rng i hi).2.2; omega) h5 (by omega) (by omega) hko hgrow hown' hat2
          exact hK _ _ (fun _ => RowR.of_grown hgrow gb.os gb.tape gb.output) trivial (hJ.app (by show 9 < L.size; rw [hLs]; decide) (by decide) (by show _ < ac.tmps.size; omega) id id ⟨g', c', s, _, _, rfl, hK1⟩)
        · obtain rfl := Option.some.inj ho
          have q3 : ac.tmps.getD 3 undef = .pointer (some ⟨w.heap.size + 2, 0, none⟩) := hf.at_ 3 (by kernel_rfl)
          clear hp he
          go_simp
          exact hK _ _ (fun _ => RowR.refl _ _ _) (getD_put_self ac 29 _ (by show _ < ac.tmps.size; omega)) (hJ.other (by decide) (by decide) (by decide) id id id fun _ h => h)
        · omega
      · intro L ac u hf hR0 hp hJ K' hK
        have hR : RowA (Value.slice adv nv cv).ownBlock wr u := fun B => (RowR.of_below (Below.drew (Below.refl _ _))).trans (hR0 B)
        have hsz' : ac.tmps.size = 31 := hf.size
        have hus := (hR 0).size
        have q29 : ac.tmps.getD 29 undef = .pointer (some ⟨w.heap.size + 2, 4, none⟩) := (hp 10 _ (by decide) rfl).2
        obtain ⟨g, c, s, l', h', q28, hkp⟩ := hJ.2.2.2 (hp 9 _ (by decide) rfl).1
        have hF := hR.five HI.out.box (by omega) (hne _ (by omega))
        have c4 := hF.c4
        have f4 := hF.f 4
        rw [q28] at hkp
        have hnext := HI.out.next HX.out hR hkp
        have HN : Hid (KidC w e _ base (j + 1) (u.setCell ⟨w.heap.size + 2, 4, none⟩ _) _ _ _ _) := hnext
        have m28 := q28
        have m29 := q29
        clear q28 q29 hp hJ hkp hR0 hR hsz' hF hnext HI
        obtain ⟨f, ea, hfv⟩ := act_lit ac 31 hf.size
        have md : ac.defers = [] := hf.defers
        rw [md] at ea
        have m0 := hf.at_ 0 (by kernel_rfl)
        have m1 := hf.at_ 1 (by kernel_rfl)
        have m2 := hf.at_ 2 (by kernel_rfl)
        have m3 := hf.at_ 3 (by kernel_rfl)
        have m4 := hf.at_ 4 (by kernel_rfl)
        have m5 := hf.at_ 5 (by kernel_rfl)
        have m6 := hf.at_ 6 (by kernel_rfl)
        have m7 := hf.at_ 7 (by kernel_rfl)
        have m8 := hf.at_ 8 (by kernel_rfl)
        have m9 := hf.at_ 9 (by kernel_rfl)
        have m10 := hf.at_ 10 (by kernel_rfl)
        have m11 := hf.at_ 11 (by kernel_rfl)
        have m12 := hf.at_ 12 (by kernel_rfl)
        have m13 := hf.at_ 13 (by kernel_rfl)
        have m14 := hf.at_ 14 (by kernel_rfl)
        have m15 := hf.at_ 15 (by kernel_rfl)
        have m16 := hf.at_ 16 (by kernel_rfl)
        have m17 := hf.at_ 17 (by kernel_rfl)
        have m18 := hf.at_ 18 (by kernel_rfl)
        have m30 := hf.at_ 30 (by kernel_rfl)
        rw [← hfv] at m0 m1 m2 m3 m4 m5 m6 m7 m8 m9 m10 m11 m12 m13 m14 m15 m16 m17 m18 m30 m28 m29
        simp only [Array.getD_eq_getD_getElem?, List.getElem?_toArray, List.getElem?_cons_succ, List.getElem?_cons_zero, Option.getD_some] at m0 m1 m2 m3 m4 m5 m6 m7 m8 m9 m10 m11 m12 m13 m14 m15 m16 m17 m18 m30
        simp only [List.range, List.range.loop, List.map_cons, List.map_nil, m0, m1, m2, m3, m4, m5, m6, m7, m8, m9, m10, m11, m12, m13, m14, m15, m16, m17, m18, m30, m28, m29] at ea
        subst ea
        clear m0 m1 m2 m3 m4 m5 m6 m7 m8 m9 m10 m11 m12 m13 m14 m15 m16 m17 m18 m30 m28 m29 hfv md hf
        go_simp
        refine hK _ _ ?_
        clear hK
        go_wp2
        go_roundw
        case rel => exact ⟨j + 1, _, _, _, _, by go_num, by omega, by have hx := HN.out; rw [hpl] at hx; exact hx⟩
        case measure => simp [intOf]; omega
    · have hjl' : ¬ (j : Int) < (e.kids.length : Int) := by omega
      obtain rfl : j = e.kids.length := by omega
      have hes : ps.map Prod.fst = e.kids := by rw [hI.done, List.take_length]
      have hko := hI.kp.ko
      rw [hes] at hko
      obtain ⟨u9, hu9, F9, N9, S9, B9⟩ := five_store hI.res (.int .i64 e.k) (.int .i64 e.n) (.int .i64 e.ak) (.int .i64 e.at_) (.slice adv nv cv)
      have HU : Hid (_ = u9) := hu9
      have HF : Hid (Five u9 (w.heap.size + 1) _ _ _ _ _) := F9
      have HG : Hid (Below w.heap.size w u9) := B9 _ _ (by omega) hI.below
      have hws := hI.below.size
      have HKO : Hid (KO u9 w.heap.size u9.heap.size (.slice adv nv cv) e.kids) := (hko.kept fun k h1 h2 => N9 k (by omega)).wide (by omega) (by omega)
      obtain ⟨p0, p1, p2, p3, p4, pf⟩ := hI.res
      obtain ⟨y0, y1, y2, y3, y4, _⟩ := hI.box
      have q0 := pf 0
      have q1 := pf 1
      have q2 := pf 2
      have q3 := pf 3
      have q4 := pf 4
      clear pf hu9 F9 N9 B9 hko hI hes hpl
      go_wp2
      rw [HU.out]
      obtain ⟨r0, r1, r2, r3, r4, _⟩ := HF.out
      exact bodyPost_ret (v := .agg #[.int .i64 e.k, .int .i64 e.n, .int .i64 e.ak, .int .i64 e.at_, .slice adv nv cv]) (by simp [results, Tryz.results24, go_sem, r0, r1, r2, r3, r4]) rfl ⟨_, rfl, ⟨_, rfl, HKO.out⟩, HG.out⟩

theorem copyS (m : Nat) : CopyS m := by
  induction m using Nat.strongRecOn with
  | ind m ih => exact copy_step ih
end Go.Proofs.YtkeockippmmneaaGreat
