/-
  Draws of memories: l2Mem, l2MemBent.
-/
import Derived.Test.YtdhmioelmcdflaaDrawKit
import Derived.Test.YtdhmioelmcdflaaDrawDag
import Derived.Test.YtdhmioelmcdflaaMemKit
import Derived.Test.YtdhmioelmcdflaaLawKit
import Derived.ArgAppend
namespace Go.Proofs.Ytdhmioelmcdflaa
open Go.ChangeShapes Go.WideShapes Go.ChangeAt Go.RowKit
set_option linter.unusedVariables false
set_option maxRecDepth 100000

/-- A block of six numbers that may be written. -/
structure Six (u : World) (g : Nat) : Prop where
  c : ∀ i, i < 6 → ∃ x, u.cell? ⟨g, i, none⟩ = some (.int .i64 x)
  f : ∀ i, u.frozen? ⟨g, i, none⟩ = false

theorem Six.at_ {u u' : World} {g : Nat} (h : Six u g) (hk : u'.heap[g]? = u.heap[g]?) : Six u' g :=
  ⟨fun i hi => by rw [World.cell?_of_block (w := u) hk]; exact h.c i hi, fun i => by rw [World.frozen?_of_block (w := u) hk]; exact h.f i⟩
theorem Six.set {u : World} {g : Nat} (h : Six u g) (b o : Nat) (z : Int) : Six (u.setCell ⟨b, o, none⟩ (.int .i64 z)) g := by
  refine ⟨fun i hi => ?_, fun i => by rw [World.frozen?_setCell]; exact h.f i⟩
  by_cases e : g = b ∧ i = o
  · obtain ⟨rfl, rfl⟩ := e
    obtain ⟨x, hx⟩ := h.c i hi
    exact ⟨z, World.cell?_setCell_same' _ _ _ (by rw [hx]; rfl)⟩
  · rw [cell_set_other u (by omega)]; exact h.c i hi
theorem Six.setO {u : World} {g : Nat} (h : Six u g) {b o : Nat} (hb : g ≠ b) (v : Value) : Six (u.setCell ⟨b, o, none⟩ v) g :=
  h.at_ (Below.heap_setCell _ _ _ _ hb)

theorem six_si {u : World} {g lo hi : Nat} (h : Six u g) (h1 : lo ≤ g) (h2 : g < hi) (n : Nat) (hn : n ≤ 6) : ∃ xs : List Int, xs.length = n ∧ SI u lo hi (.slice (some ⟨g, 0, none⟩) n 6) xs := by
  have hx : ∀ m, m ≤ 6 → ∃ xs : List Int, xs.length = m ∧ CI u g 0 xs := by
    intro m
    induction m with
    | zero => intro _; exact ⟨[], rfl, fun i x h => by simp at h⟩
    | succ m ih =>
      intro hm
      obtain ⟨xs, hl, hc⟩ := ih (by omega)
      obtain ⟨x, hx⟩ := h.c m (by omega)
      refine ⟨xs ++ [x], by simp [hl], fun i y hy => ?_⟩
      by_cases hi : i < xs.length
      · rw [List.getElem?_append_left hi] at hy; exact hc i y hy
      · rw [List.getElem?_append_right (by omega)] at hy
        have hil : i = m := by have := (List.getElem?_eq_some_iff.mp hy).1; simp at this; omega
        subst hil
        rw [hl] at hy
        simp at hy
        subst hy
        rw [Nat.zero_add]; exact hx
  obtain ⟨xs, hl, hc⟩ := hx n hn
  refine ⟨xs, hl, some ⟨g, 0, none⟩, 6, by rw [hl], by omega, by unfold maxLen; omega, ?_⟩
  by_cases h0 : xs = []
  · exact .inl h0
  · exact .inr ⟨g, 0, rfl, h1, h2, hc⟩

/-- Three values in one block that may be written. -/
structure Three (u : World) (V : Nat) (x y z : Value) : Prop where
  c0 : u.cell? ⟨V, 0, none⟩ = some x
  c1 : u.cell? ⟨V, 1, none⟩ = some y
  c2 : u.cell? ⟨V, 2, none⟩ = some z
  f : ∀ o, u.frozen? ⟨V, o, none⟩ = false

theorem three_new (u : World) (x y z : Value) (t : TypeId) : Three (u.alloc (.cells #[x, y, z] t)) u.heap.size x y z :=
  ⟨World.cell?_alloc_new _ _ _ _, World.cell?_alloc_new _ _ _ _, World.cell?_alloc_new _ _ _ _, fun o => World.frozen?_alloc_new _ _ _ _⟩
theorem Three.at_ {u u' : World} {V : Nat} {x y z : Value} (h : Three u V x y z) (hk : u'.heap[V]? = u.heap[V]?) : Three u' V x y z :=
  ⟨by rw [World.cell?_of_block (w := u) hk]; exact h.c0, by rw [World.cell?_of_block (w := u) hk]; exact h.c1, by rw [World.cell?_of_block (w := u) hk]; exact h.c2, fun i => by rw [World.frozen?_of_block (w := u) hk]; exact h.f i⟩
theorem Three.set0 {u : World} {V : Nat} {x y z : Value} (h : Three u V x y z) (v : Value) : Three (u.setCell ⟨V, 0, none⟩ v) V v y z :=
  ⟨World.cell?_setCell_same' _ _ _ (by rw [h.c0]; rfl), by rw [cell_set_other u (.inr (by decide))]; exact h.c1, by rw [cell_set_other u (.inr (by decide))]; exact h.c2, fun o => by rw [World.frozen?_setCell]; exact h.f o⟩
theorem Three.set1 {u : World} {V : Nat} {x y z : Value} (h : Three u V x y z) (v : Value) : Three (u.setCell ⟨V, 1, none⟩ v) V x v z :=
  ⟨by rw [cell_set_other u (.inr (by decide))]; exact h.c0, World.cell?_setCell_same' _ _ _ (by rw [h.c1]; rfl), by rw [cell_set_other u (.inr (by decide))]; exact h.c2, fun o => by rw [World.frozen?_setCell]; exact h.f o⟩
theorem Three.set2 {u : World} {V : Nat} {x y z : Value} (h : Three u V x y z) (v : Value) : Three (u.setCell ⟨V, 2, none⟩ v) V x y v :=
  ⟨by rw [cell_set_other u (.inr (by decide))]; exact h.c0, by rw [cell_set_other u (.inr (by decide))]; exact h.c1, World.cell?_setCell_same' _ _ _ (by rw [h.c2]; rfl), fun o => by rw [World.frozen?_setCell]; exact h.f o⟩

theorem three_store {u : World} {R : Nat} {a b c : Value} (h : Three u R a b c) (x y z : Value) :
    ∃ u1, ((u.setCell ⟨R, 0, none⟩ x).setCell ⟨R, 1, none⟩ y).setCell ⟨R, 2, none⟩ z = u1 ∧ Three u1 R x y z ∧ (∀ k, k ≠ R → u1.heap[k]? = u.heap[k]?) ∧ u1.heap.size = u.heap.size ∧ Below R u u1 :=
  ⟨_, rfl, ((h.set0 _).set1 _).set2 _, fun k hk => by rw [Below.heap_setCell _ _ _ _ hk, Below.heap_setCell _ _ _ _ hk, Below.heap_setCell _ _ _ _ hk], by simp, (((Below.refl _ _).setCell (p := ⟨R, 0, none⟩) (Nat.le_refl _) _).setCell (p := ⟨R, 1, none⟩) (Nat.le_refl _) _).setCell (p := ⟨R, 2, none⟩) (Nat.le_refl _) _⟩

theorem make6 : ∀ w : World, (Instr.makeSlice 28 (.int .i64 6) (.int .i64 6)).run Try.prog w = .ok (.slice (some ⟨w.heap.size, 0, none⟩) 6 6) (w.alloc (.cells #[.int .i64 0, .int .i64 0, .int .i64 0, .int .i64 0, .int .i64 0, .int .i64 0] 3)) := fun _ => by kernel_rfl

theorem six_made (u : World) (t : TypeId) : Six (u.alloc (.cells #[.int .i64 0, .int .i64 0, .int .i64 0, .int .i64 0, .int .i64 0, .int .i64 0] t)) u.heap.size := by
  refine ⟨fun i hi => ⟨0, ?_⟩, fun i => World.frozen?_alloc_new _ _ _ _⟩
  rw [World.cell?_alloc_new]
  match i, hi with
  | 0, _ | 1, _ | 2, _ | 3, _ | 4, _ | 5, _ => rfl

set_option maxHeartbeats 1000000 in
theorem open6_any (w : World) :
    Calls Try.prog 90 #[] w fun e w' => ∃ ga gb gc, e = .returned (.agg #[.slice (some ⟨ga, 0, none⟩) 6 6, .slice (some ⟨gb, 0, none⟩) 6 6, .slice (some ⟨gc, 0, none⟩) 6 6]) ∧ (Six w' ga ∧ Six w' gb ∧ Six w' gc) ∧ (w.heap.size ≤ ga ∧ ga < w'.heap.size) ∧ (w.heap.size ≤ gb ∧ gb < w'.heap.size) ∧ (w.heap.size ≤ gc ∧ gc < w'.heap.size) ∧ Below w.heap.size w w' := by
  obtain ⟨u0, hu0, B0, Z0, S0⟩ : ∃ u0, w.alloc (.cells #[.slice none 0 0, .slice none 0 0, .slice none 0 0] 30) = u0 ∧ Below w.heap.size w u0 ∧ Three u0 w.heap.size (.slice none 0 0) (.slice none 0 0) (.slice none 0 0) ∧ u0.heap.size = w.heap.size + 1 :=
    ⟨_, rfl, (Below.refl _ _).alloc (Nat.le_refl _) _, three_new w _ _ _ _, by simp⟩
  go_enter Try.func90, Try.ntmps90
  go_wp2_with fail
  clear hu0
  refine wp_region_last (R := Grow) (Φ := fun i v u => match i with
      | 0 | 1 | 2 => ∃ g, v = .slice (some ⟨g, 0, none⟩) 6 6 ∧ Six u g ∧ w.heap.size < g ∧ g < u.heap.size
      | 3 => ∃ ga gb gc, v = .agg #[.slice (some ⟨ga, 0, none⟩) 6 6, .slice (some ⟨gb, 0, none⟩) 6 6, .slice (some ⟨gc, 0, none⟩) 6 6] ∧ (Six u ga ∧ w.heap.size < ga ∧ ga < u.heap.size) ∧ (Six u gb ∧ w.heap.size < gb ∧ gb < u.heap.size) ∧ (Six u gc ∧ w.heap.size < gc ∧ gc < u.heap.size)
      | _ => True)
    (J := fun _ _ _ => True) 4 _ rfl rfl (by kernel_rfl) (by kernel_rfl) (by kernel_rfl) (by kernel_rfl) (Below.refl _ _) grow_trans ?_ trivial ?_ ?_
  · intro i v u u' hr
    have hs := hr.size
    match i with
    | _ + 4 => exact fun h => h
    | 0 | 1 | 2 => exact fun ⟨g, h1, h2, h3, h4⟩ => ⟨g, h1, h2.at_ (hr.block g h4), h3, by omega⟩
    | 3 => exact fun ⟨ga, gb, gc, h1, ⟨h2, h3, h4⟩, ⟨h5, h6, h7⟩, ⟨h8, h9, h10⟩⟩ => ⟨ga, gb, gc, h1, ⟨h2.at_ (hr.block ga h4), h3, by omega⟩, ⟨h5.at_ (hr.block gb h7), h6, by omega⟩, ⟨h8.at_ (hr.block gc h10), h9, by omega⟩⟩
  · intro i o ho hin L ac u hf hR0 hLs hLi hp he hJ K' hK
    have hR : Grow u0 u := (Below.drew (Below.refl _ _)).trans hR0
    have hsz' : ac.tmps.size = 5 := hf.size
    have hus := hR.size
    have hmk := make6
    rcases i with _ | _ | _ | _ | i
    · obtain rfl := Option.some.inj ho
      clear hp he
      go_simp
      exact hK _ _ ((Below.refl _ _).alloc (Nat.le_refl _) _) ⟨u.heap.size, getD_put_self ac 1 _ (by show _ < ac.tmps.size; omega), six_made u _, by omega, by simp⟩ trivial
    · obtain rfl := Option.some.inj ho
      clear hp he
      go_simp
      exact hK _ _ ((Below.refl _ _).alloc (Nat.le_refl _) _) ⟨u.heap.size, getD_put_self ac 2 _ (by show _ < ac.tmps.size; omega), six_made u _, by omega, by simp⟩ trivial
    · obtain rfl := Option.some.inj ho
      clear hp he
      go_simp
      exact hK _ _ ((Below.refl _ _).alloc (Nat.le_refl _) _) ⟨u.heap.size, getD_put_self ac 3 _ (by show _ < ac.tmps.size; omega), six_made u _, by omega, by simp⟩ trivial
    · obtain rfl := Option.some.inj ho
      obtain ⟨ga, q1, h1⟩ := hp 0 _ rfl (he _ (Array.mem_of_getElem? (i := 0) rfl) (by kernel_rfl))
      obtain ⟨gb, q2, h2⟩ := hp 1 _ rfl (he _ (Array.mem_of_getElem? (i := 1) rfl) (by kernel_rfl))
      obtain ⟨gc, q3, h3⟩ := hp 2 _ rfl (he _ (Array.mem_of_getElem? (i := 2) rfl) (by kernel_rfl))
      have q1b : ac.tmps[1]?.getD undef = .slice (some ⟨ga, 0, none⟩) 6 6 := by rw [← q1]; exact (Array.getD_eq_getD_getElem? ..).symm
      have q2b : ac.tmps[2]?.getD undef = .slice (some ⟨gb, 0, none⟩) 6 6 := by rw [← q2]; exact (Array.getD_eq_getD_getElem? ..).symm
      have q3b : ac.tmps[3]?.getD undef = .slice (some ⟨gc, 0, none⟩) 6 6 := by rw [← q3]; exact (Array.getD_eq_getD_getElem? ..).symm
      have HZ : Hid (ac.tmps.size = 5) := hsz'
      clear hp he hsz' q1 q2 q3
      go_simp
      have hsz' := HZ.out
      exact hK _ _ (Below.refl _ _) ⟨ga, gb, gc, getD_put_self ac 4 _ (by show _ < ac.tmps.size; omega), h1, h2, h3⟩ trivial
    · omega
  · intro L ac u hf hR0 hp hJ K' hK
    have hR : Grow u0 u := (Below.drew (Below.refl _ _)).trans hR0
    have hus := hR.size
    obtain ⟨ga, gb, gc, q4, ⟨h2, h3, h4⟩, ⟨h5, h6, h7⟩, ⟨h8, h9, h10⟩⟩ := (hp 3 _ (by decide) rfl).2
    have m4 : ac.tmps.getD 4 undef = .agg #[.slice (some ⟨ga, 0, none⟩) 6 6, .slice (some ⟨gb, 0, none⟩) 6 6, .slice (some ⟨gc, 0, none⟩) 6 6] := q4
    have hZ := Z0.at_ (hR.block w.heap.size (by omega))
    obtain ⟨u9, hu9, T9, N9, S9, B9⟩ := three_store hZ (.slice (some ⟨ga, 0, none⟩) 6 6) (.slice (some ⟨gb, 0, none⟩) 6 6) (.slice (some ⟨gc, 0, none⟩) 6 6)
    have HU : Hid (_ = u9) := hu9
    have HT : Hid (Three u9 w.heap.size _ _ _) := T9
    have HB : Hid (Below w.heap.size w u9) := (B0.trans (hR.mono (by omega))).trans B9
    have HS : Hid ((Six u9 ga ∧ Six u9 gb ∧ Six u9 gc) ∧ (w.heap.size ≤ ga ∧ ga < u9.heap.size) ∧ (w.heap.size ≤ gb ∧ gb < u9.heap.size) ∧ (w.heap.size ≤ gc ∧ gc < u9.heap.size)) := ⟨⟨h2.at_ (N9 ga (by omega)), h5.at_ (N9 gb (by omega)), h8.at_ (N9 gc (by omega))⟩, by omega, by omega, by omega⟩
    obtain ⟨c0, c1, c2, ff⟩ := hZ
    have f0 := ff 0
    have f1 := ff 1
    have f2 := ff 2
    clear ff hu9 T9 B9 N9 q4 hp hJ hR0 hR h2 h5 h8
    obtain ⟨f, ea, hfv⟩ := act_lit ac 5 hf.size
    have md : ac.defers = [] := hf.defers
    rw [md] at ea
    have m0 := hf.at_ 0 (by kernel_rfl)
    rw [← hfv] at m0 m4
    simp only [Array.getD_eq_getD_getElem?, List.getElem?_toArray, List.getElem?_cons_zero, Option.getD_some] at m0
    simp only [List.range, List.range.loop, List.map_cons, List.map_nil, m0, m4] at ea
    subst ea
    clear m0 m4 hfv md hf
    go_simp
    refine hK _ _ ?_
    clear hK
    go_wp2
    rw [HU.out]
    obtain ⟨r0, r1, r2, _⟩ := HT.out
    obtain ⟨k1, k2, k3, k4⟩ := HS.out
    exact bodyPost_ret (v := .agg #[.slice (some ⟨ga, 0, none⟩) 6 6, .slice (some ⟨gb, 0, none⟩) 6 6, .slice (some ⟨gc, 0, none⟩) 6 6]) (by simp [results, Try.results90, go_sem, r0, r1, r2]) rfl ⟨ga, gb, gc, rfl, k1, k2, k3, k4, HB.out⟩

/-- What holds as a memory is drawn: it is the variable's, at V. -/
structure MemI (n0 B : Nat) (a : Option Addr) (len cap : Nat) (q : Int) (w : World) (V : Nat) (u : World) (ga gb gc : Nat) : Prop where
  var : Three u V (.slice (some ⟨ga, 0, none⟩) 6 6) (.slice (some ⟨gb, 0, none⟩) 6 6) (.slice (some ⟨gc, 0, none⟩) 6 6)
  res : Three u w.heap.size (.slice none 0 0) (.slice none 0 0) (.slice none 0 0)
  sa : Six u ga
  sb : Six u gb
  sc : Six u gc
  rd : RdQ n0 B a len cap q u
  aside : Aside B w u
  lt : V < u.heap.size ∧ (w.heap.size < ga ∧ ga < V) ∧ (w.heap.size < gb ∧ gb < V) ∧ (w.heap.size < gc ∧ gc < V)

theorem MemI.asideB {n0 B : Nat} {a : Option Addr} {len cap : Nat} {q q' : Int} {w : World} {V : Nat} {u u' : World} {ga gb gc : Nat} (h : MemI n0 B a len cap q w V u ga gb gc) (hB : B < w.heap.size) (ha : Aside B u u') (hr : RdQ n0 B a len cap q' u') : MemI n0 B a len cap q' w V u' ga gb gc := by
  have hl := h.lt
  have hs := ha.size
  exact ⟨h.var.at_ (ha.at_ (by omega) (by omega)), h.res.at_ (ha.at_ (by omega) (by omega)), h.sa.at_ (ha.at_ (by omega) (by omega)), h.sb.at_ (ha.at_ (by omega) (by omega)), h.sc.at_ (ha.at_ (by omega) (by omega)), hr, h.aside.trans ha, by omega⟩
theorem MemI.set {n0 B : Nat} {a : Option Addr} {len cap : Nat} {q : Int} {w : World} {V : Nat} {u : World} {ga gb gc : Nat} (h : MemI n0 B a len cap q w V u ga gb gc) (hB : B < w.heap.size) (g i : Nat) (hg : w.heap.size < g ∧ g < V) (x : Int) : MemI n0 B a len cap q w V (u.setCell ⟨g, i, none⟩ (.int .i64 x)) ga gb gc := by
  have hl := h.lt
  exact ⟨h.var.at_ (Below.heap_setCell _ _ _ _ (show V ≠ g by omega)), h.res.at_ (Below.heap_setCell _ _ _ _ (show w.heap.size ≠ g by omega)), h.sa.set _ _ _, h.sb.set _ _ _, h.sc.set _ _ _, h.rd.setCell (by omega) _, h.aside.setNew (by omega) _, by rw [World.size_setCell]; exact hl⟩

/-- A new block of numbers. -/
def NewInts (u : World) (lo n : Nat) (v : Value) : Prop := ∃ g, v = .slice (some ⟨g, 0, none⟩) n n ∧ lo ≤ g ∧ g < u.heap.size ∧ ∀ i, i < n → ∃ x, u.cell? ⟨g, 0 + i, none⟩ = some (.int .i64 x)
theorem NewInts.aside {u u' : World} {B lo n : Nat} {v : Value} (h : NewInts u lo n v) (ha : Aside B u u') (hB : B < lo) : NewInts u' lo n v := by
  obtain ⟨g, h1, h2, h3, h4⟩ := h
  have hs := ha.size
  exact ⟨g, h1, h2, by omega, fun i hi => by rw [ha.cellAt h3 (by omega)]; exact h4 i hi⟩

set_option maxHeartbeats 8000000 in
theorem l2Mem_any (n0 : Nat) (w : World) (B : Nat) (a : Option Addr) (len cap : Nat) (q : Int) (h : RdQ n0 B a len cap q w) (hq : q + 20 < 1000000) :
    Calls Try.prog 68 #[.pointer (some ⟨B, 0, none⟩)] w fun e w' => ∃ ga gb gc, e = .returned (.agg #[.slice (some ⟨ga, 0, none⟩) 6 6, .slice (some ⟨gb, 0, none⟩) 6 6, .slice (some ⟨gc, 0, none⟩) 6 6]) ∧ (Six w' ga ∧ Six w' gb ∧ Six w' gc) ∧ (w.heap.size ≤ ga ∧ ga < w'.heap.size) ∧ (w.heap.size ≤ gb ∧ gb < w'.heap.size) ∧ (w.heap.size ≤ gc ∧ gc < w'.heap.size) ∧ RdQ n0 B a len cap (q + 20) w' ∧ Aside B w w' := by
  have hB := h.hi
  obtain ⟨u0, hu0, A0, R0, S0, P0⟩ : ∃ u0, w.alloc (.cells #[.slice none 0 0, .slice none 0 0, .slice none 0 0] 30) = u0 ∧ Aside B w u0 ∧ RdQ n0 B a len cap q u0 ∧ u0.heap.size = w.heap.size + 1 ∧ Three u0 w.heap.size (.slice none 0 0) (.slice none 0 0) (.slice none 0 0) :=
    ⟨_, rfl, aside_alloc _ _ _, h.kept ((Below.refl _ _).alloc (Nat.le_refl _) _), by simp, three_new _ _ _ _ _⟩
  go_enter Try.func68, Try.ntmps68
  go_wp2_with fail
  clear hu0
  refine (open6_any _).mono ?_
  rintro e u1 ⟨ga, gb, gc, rfl, ⟨s1, s2, s3⟩, l1, l2, l3, g1⟩
  have S1 := g1.size
  obtain ⟨V, hV⟩ : ∃ V, u1.heap.size = V := ⟨_, rfl⟩
  obtain ⟨u2, hu2, hI⟩ : ∃ u2, u1.alloc (.cells #[.slice (some ⟨ga, 0, none⟩) 6 6, .slice (some ⟨gb, 0, none⟩) 6 6, .slice (some ⟨gc, 0, none⟩) 6 6] 30) = u2 ∧ MemI n0 B a len cap q w V u2 ga gb gc := by
    have g2 := (Below.refl u1.heap.size u1).alloc (Nat.le_refl _) (.cells #[.slice (some ⟨ga, 0, none⟩) 6 6, .slice (some ⟨gb, 0, none⟩) 6 6, .slice (some ⟨gc, 0, none⟩) 6 6] 30)
    have T2 := three_new u1 (.slice (some ⟨ga, 0, none⟩) 6 6) (.slice (some ⟨gb, 0, none⟩) 6 6) (.slice (some ⟨gc, 0, none⟩) 6 6) 30
    rw [hV] at T2
    exact ⟨_, rfl, T2, (P0.at_ (g1.block _ (by omega))).at_ (g2.block _ (by omega)), s1.at_ (g2.block _ (by omega)), s2.at_ (g2.block _ (by omega)), s3.at_ (g2.block _ (by omega)), (R0.kept g1).kept g2, (A0.trans (aside_of g1)).trans (aside_of g2), by rw [World.size_alloc]; omega⟩
  clear A0 R0 P0 s1 s2 s3 g1
  go_wp2_with fail
  clear hu2 hV
  have HII : Hid (MemI n0 B a len cap q w V u2 ga gb gc) := hI
  clear hI
  go_loopw [4] (fun i wr => ∃ j : Nat, i = .int .i64 j ∧ j ≤ 4 ∧ Hid (MemI n0 B a len cap (q + 3 * j) w V wr ga gb gc)) (fun i _ => 4 - (intOf i).toNat)
  case atStart => exact ⟨0, rfl, by omega, (show MemI n0 B a len cap (q + 3 * ((0 : Nat) : Int)) w V u2 ga gb gc by simpa using HII.out)⟩
  case round =>
    clear HII
    obtain ⟨j, rfl, hj, HR⟩ := hrel
    by_cases hlt : j < 4
    · have hlt' : (j : Int) < 4 := by omega
      have hlt6 : (j : Int) < 6 := by omega
      go_wp2_with fail
      have hl0 := HR.out.lt
      refine wp_region_last (R := Aside B) (Φ := fun i v u => match i with
          | 0 => v = .pointer (some ⟨V, 0, none⟩)
          | 1 => v = .slice (some ⟨ga, 0, none⟩) 6 6
          | 2 => v = .int .i64 j
          | 3 => v = .pointer (some ⟨B, 0, none⟩)
          | 4 => NewInts u V 7 v
          | 5 => ∃ x, v = .int .i64 x
          | 6 => v = .pointer (some ⟨ga, j, none⟩)
          | _ => True)
        (J := KidJ 5 7 0 (RdQ n0 B a len cap (q + 3 * (j : Int))) (RdQ n0 B a len cap (q + 3 * (j : Int) + 1)) (fun _ => True) (fun _ _ => True))
        7 _ rfl rfl (by kernel_rfl) (by kernel_rfl) (by kernel_rfl) (by kernel_rfl) (Aside.refl _ _) (aside_trans B) ?_ ?_ ?_ ?_
      · intro i v u u' hr
        match i with
        | 0 | 1 | 2 | 3 | 5 | 6 | _ + 7 => exact fun h => h
        | 4 => exact fun h => NewInts.aside h hr (by omega)
      · exact ⟨fun _ => HR.out.rd.kept (Below.drew (Below.refl _ _)), fun h => by simp at h, fun _ => trivial, fun _ => trivial⟩
      · intro i o ho hin L ac u hf hR0 hLs hLi hp he hJ K' hK
        have hR : Aside B wr u := (aside_drew _ _).trans hR0
        have hsz' : ac.tmps.size = 32 := hf.size
        have hus := hR.size
        rcases i with _ | _ | _ | _ | _ | _ | _ | i
        · obtain rfl := Option.some.inj ho
          have q3 : ac.tmps.getD 3 undef = .pointer (some ⟨V, 0, none⟩) := hf.at_ 3 (by kernel_rfl)
          clear hp he
          go_simp
          exact hK _ _ (Aside.refl _ _) (getD_put_self ac 10 _ (by show _ < ac.tmps.size; omega)) (hJ.other (by decide) (by decide) (by decide) id id id fun _ h => h)
        · obtain rfl := Option.some.inj ho
          have q10 : ac.tmps.getD 10 undef = .pointer (some ⟨V, 0, none⟩) := hp 0 _ rfl (he _ (Array.mem_of_getElem? (i := 0) rfl) (by kernel_rfl))
          have c0 := (HR.out.var.at_ (hR.at_ (by omega) (by omega))).c0
          clear hp he
          go_simp
          exact hK _ _ (Aside.refl _ _) (getD_put_self ac 11 _ (by show _ < ac.tmps.size; omega)) (hJ.other (by decide) (by decide) (by decide) id id id fun _ h => h)
        · obtain rfl := Option.some.inj ho
          have q4 : ac.tmps.getD 4 undef = .int .i64 j := hf.at_ 4 (by kernel_rfl)
          clear hp he
          go_simp
          exact hK _ _ (Aside.refl _ _) (getD_put_self ac 12 _ (by show _ < ac.tmps.size; omega)) (hJ.other (by decide) (by decide) (by decide) id id id fun _ h => h)
        · obtain rfl := Option.some.inj ho
          have q0 : ac.tmps.getD 0 undef = .pointer (some ⟨B, 0, none⟩) := hf.at_ 0 (by kernel_rfl)
          clear hp he
          go_simp
          exact hK _ _ (Aside.refl _ _) (getD_put_self ac 13 _ (by show _ < ac.tmps.size; omega)) (hJ.other (by decide) (by decide) (by decide) id id id fun _ h => h)
        · obtain rfl := Option.some.inj ho
          clear hp he
          go_simp
          exact hK _ _ (aside_alloc _ _ _) ⟨u.heap.size, getD_put_self ac 14 _ (by show _ < ac.tmps.size; omega), by omega, by simp, by exact ints_new _ _ _ _ rfl rfl⟩ (hJ.other (by decide) (by decide) (by decide) (fun h => h.kept ((Below.refl _ _).alloc (Nat.le_refl _) _)) (fun h => h.kept ((Below.refl _ _).alloc (Nat.le_refl _) _)) id fun _ h => h)
        · obtain rfl := Option.some.inj ho
          have q13 : ac.tmps.getD 13 undef = .pointer (some ⟨B, 0, none⟩) := hp 3 _ rfl (he _ (Array.mem_of_getElem? (i := 0) rfl) (by kernel_rfl))
          obtain ⟨g, q14, hg1, hg2, hgc⟩ := hp 4 _ rfl (he _ (Array.mem_of_getElem? (i := 1) rfl) (by kernel_rfl))
          have q14 : ac.tmps.getD 14 undef = .slice (some ⟨g, 0, none⟩) 7 7 := q14
          have hrd := hJ.1 hLi
          clear hp he
          go_simp
          refine (numQ n0 u B a len cap _ g 0 7 7 hrd (by omega) (by omega) (by omega) (by omega) hgc).mono ?_
          rintro e1 u' ⟨x, i, rfl, _, _, hrd', hA⟩
          exact hK _ _ hA ⟨x, getD_put_self ac 15 _ (by show _ < ac.tmps.size; omega)⟩ (hJ.call (by show 5 < L.size; rw [hLs]; decide) (by decide) (by decide) hrd' id fun _ h => h)
        · obtain rfl := Option.some.inj ho
          have q11 : ac.tmps.getD 11 undef = .slice (some ⟨ga, 0, none⟩) 6 6 := hp 1 _ rfl (he _ (Array.mem_of_getElem? (i := 0) rfl) (by kernel_rfl))
          have q12 : ac.tmps.getD 12 undef = .int .i64 j := hp 2 _ rfl (he _ (Array.mem_of_getElem? (i := 1) rfl) (by kernel_rfl))
          clear hp he
          go_simp
          exact hK _ _ (Aside.refl _ _) (getD_put_self ac 16 _ (by show _ < ac.tmps.size; omega)) (hJ.other (by decide) (by decide) (by decide) id id id fun _ h => h)
        · omega
      · intro L ac u hf hR0 hp hJ K' hK
        have hR : Aside B wr u := (aside_drew _ _).trans hR0
        have m16 : ac.tmps.getD 16 undef = .pointer (some ⟨ga, j, none⟩) := (hp 6 _ (by decide) rfl).2
        obtain ⟨x, m15⟩ := (hp 5 _ (by decide) rfl).2
        have m15 : ac.tmps.getD 15 undef = .int .i64 x := m15
        have hI1 := HR.out.asideB hB hR (hJ.2.1 (hp 5 _ (by decide) rfl).1)
        have HN0 : Hid (MemI n0 B a len cap (q + 3 * (j : Int) + 1) w V (u.setCell ⟨ga, j, none⟩ (.int .i64 x)) ga gb gc) := hI1.set hB _ _ (by omega) _
        obtain ⟨y, hy⟩ := hI1.sa.c j (by omega)
        have hyf := hI1.sa.f j
        clear hI1 hp hJ hR0 hR
        obtain ⟨f, ea, hfv⟩ := act_lit ac 32 hf.size
        have md : ac.defers = [] := hf.defers
        rw [md] at ea
        have m0 := hf.at_ 0 (by kernel_rfl)
        have m1 := hf.at_ 1 (by kernel_rfl)
        have m2 := hf.at_ 2 (by kernel_rfl)
        have m3 := hf.at_ 3 (by kernel_rfl)
        have m4 := hf.at_ 4 (by kernel_rfl)
        have m5 := hf.at_ 5 (by kernel_rfl)
        have m6 := hf.at_ 6 (by kernel_rfl)
        have m7 := hf.at_ 7 (by kernel_rfl)
        have m8 := hf.at_ 8 (by kernel_rfl)
        have m9 := hf.at_ 9 (by kernel_rfl)
        have m17 := hf.at_ 17 (by kernel_rfl)
        have m18 := hf.at_ 18 (by kernel_rfl)
        have m19 := hf.at_ 19 (by kernel_rfl)
        have m20 := hf.at_ 20 (by kernel_rfl)
        have m21 := hf.at_ 21 (by kernel_rfl)
        have m22 := hf.at_ 22 (by kernel_rfl)
        have m23 := hf.at_ 23 (by kernel_rfl)
        have m24 := hf.at_ 24 (by kernel_rfl)
        have m25 := hf.at_ 25 (by kernel_rfl)
        have m26 := hf.at_ 26 (by kernel_rfl)
        have m27 := hf.at_ 27 (by kernel_rfl)
        have m28 := hf.at_ 28 (by kernel_rfl)
        have m29 := hf.at_ 29 (by kernel_rfl)
        have m30 := hf.at_ 30 (by kernel_rfl)
        have m31 := hf.at_ 31 (by kernel_rfl)
        rw [← hfv] at m0 m1 m2 m3 m4 m5 m6 m7 m8 m9 m17 m18 m19 m20 m21 m22 m23 m24 m25 m26 m27 m28 m29 m30 m31 m15 m16
        simp only [Array.getD_eq_getD_getElem?, List.getElem?_toArray, List.getElem?_cons_succ, List.getElem?_cons_zero, Option.getD_some] at m0 m1 m2 m3 m4 m5 m6 m7 m8 m9 m17 m18 m19 m20 m21 m22 m23 m24 m25 m26 m27 m28 m29 m30 m31
        simp only [List.range, List.range.loop, List.map_cons, List.map_nil, m0, m1, m2, m3, m4, m5, m6, m7, m8, m9, m17, m18, m19, m20, m21, m22, m23, m24, m25, m26, m27, m28, m29, m30, m31, m15, m16] at ea
        subst ea
        clear m0 m1 m2 m3 m4 m5 m6 m7 m8 m9 m17 m18 m19 m20 m21 m22 m23 m24 m25 m26 m27 m28 m29 m30 m31 m15 m16 hfv md hf
        go_simp
        refine hK _ _ ?_
        clear hK
        clear hy hyf
        obtain ⟨w1, hw1⟩ : ∃ w1, u.setCell ⟨ga, j, none⟩ (.int .i64 x) = w1 := ⟨_, rfl⟩
        rw [hw1] at HN0 ⊢
        clear hw1
        go_wp2_with fail
        have hl1 := HN0.out.lt
        refine wp_region_last (R := Aside B) (Φ := fun i v u => match i with
            | 0 => v = .pointer (some ⟨V, 1, none⟩)
            | 1 => v = .slice (some ⟨gb, 0, none⟩) 6 6
            | 2 => v = .int .i64 j
            | 3 => v = .pointer (some ⟨B, 0, none⟩)
            | 4 => NewInts u V 4 v
            | 5 => ∃ x, v = .int .i64 x
            | 6 => v = .pointer (some ⟨gb, j, none⟩)
            | _ => True)
          (J := KidJ 5 7 0 (RdQ n0 B a len cap (q + 3 * (j : Int) + 1)) (RdQ n0 B a len cap (q + 3 * (j : Int) + 1 + 1)) (fun _ => True) (fun _ _ => True))
          7 _ rfl rfl (by kernel_rfl) (by kernel_rfl) (by kernel_rfl) (by kernel_rfl) (Aside.refl _ _) (aside_trans B) ?_ ?_ ?_ ?_
        · intro i v u u' hr
          match i with
          | 0 | 1 | 2 | 3 | 5 | 6 | _ + 7 => exact fun h => h
          | 4 => exact fun h => NewInts.aside h hr (by omega)
        · exact ⟨fun _ => HN0.out.rd.kept (Below.drew (Below.refl _ _)), fun h => by simp at h, fun _ => trivial, fun _ => trivial⟩
        · intro i o ho hin L ac u hf hR0 hLs hLi hp he hJ K' hK
          have hR : Aside B w1 u := (aside_drew _ _).trans hR0
          have hsz' : ac.tmps.size = 32 := hf.size
          have hus := hR.size
          rcases i with _ | _ | _ | _ | _ | _ | _ | i
          · obtain rfl := Option.some.inj ho
            have q3 : ac.tmps.getD 3 undef = .pointer (some ⟨V, 0, none⟩) := hf.at_ 3 (by kernel_rfl)
            clear hp he
            go_simp
            exact hK _ _ (Aside.refl _ _) (getD_put_self ac 17 _ (by show _ < ac.tmps.size; omega)) (hJ.other (by decide) (by decide) (by decide) id id id fun _ h => h)
          · obtain rfl := Option.some.inj ho
            have q17 : ac.tmps.getD 17 undef = .pointer (some ⟨V, 1, none⟩) := hp 0 _ rfl (he _ (Array.mem_of_getElem? (i := 0) rfl) (by kernel_rfl))
            have c0 := (HN0.out.var.at_ (hR.at_ (by omega) (by omega))).c1
            clear hp he
            go_simp
            exact hK _ _ (Aside.refl _ _) (getD_put_self ac 18 _ (by show _ < ac.tmps.size; omega)) (hJ.other (by decide) (by decide) (by decide) id id id fun _ h => h)
          · obtain rfl := Option.some.inj ho
            have q4 : ac.tmps.getD 4 undef = .int .i64 j := hf.at_ 4 (by kernel_rfl)
            clear hp he
            go_simp
            exact hK _ _ (Aside.refl _ _) (getD_put_self ac 19 _ (by show _ < ac.tmps.size; omega)) (hJ.other (by decide) (by decide) (by decide) id id id fun _ h => h)
          · obtain rfl := Option.some.inj ho
            have q0 : ac.tmps.getD 0 undef = .pointer (some ⟨B, 0, none⟩) := hf.at_ 0 (by kernel_rfl)
            clear hp he
            go_simp
            exact hK _ _ (Aside.refl _ _) (getD_put_self ac 20 _ (by show _ < ac.tmps.size; omega)) (hJ.other (by decide) (by decide) (by decide) id id id fun _ h => h)
          · obtain rfl := Option.some.inj ho
            clear hp he
            go_simp
            exact hK _ _ (aside_alloc _ _ _) ⟨u.heap.size, getD_put_self ac 21 _ (by show _ < ac.tmps.size; omega), by omega, by simp, by exact ints_new _ _ _ _ rfl rfl⟩ (hJ.other (by decide) (by decide) (by decide) (fun h => h.kept ((Below.refl _ _).alloc (Nat.le_refl _) _)) (fun h => h.kept ((Below.refl _ _).alloc (Nat.le_refl _) _)) id fun _ h => h)
          · obtain rfl := Option.some.inj ho
            have q20 : ac.tmps.getD 20 undef = .pointer (some ⟨B, 0, none⟩) := hp 3 _ rfl (he _ (Array.mem_of_getElem? (i := 0) rfl) (by kernel_rfl))
            obtain ⟨g, q21, hg1, hg2, hgc⟩ := hp 4 _ rfl (he _ (Array.mem_of_getElem? (i := 1) rfl) (by kernel_rfl))
            have q21 : ac.tmps.getD 21 undef = .slice (some ⟨g, 0, none⟩) 4 4 := q21
            have hrd := hJ.1 hLi
            clear hp he
            go_simp
            refine (numQ n0 u B a len cap _ g 0 4 4 hrd (by omega) (by omega) (by omega) (by omega) hgc).mono ?_
            rintro e1 u' ⟨x, i, rfl, _, _, hrd', hA⟩
            exact hK _ _ hA ⟨x, getD_put_self ac 22 _ (by show _ < ac.tmps.size; omega)⟩ (hJ.call (by show 5 < L.size; rw [hLs]; decide) (by decide) (by decide) hrd' id fun _ h => h)
          · obtain rfl := Option.some.inj ho
            have q18 : ac.tmps.getD 18 undef = .slice (some ⟨gb, 0, none⟩) 6 6 := hp 1 _ rfl (he _ (Array.mem_of_getElem? (i := 0) rfl) (by kernel_rfl))
            have q19 : ac.tmps.getD 19 undef = .int .i64 j := hp 2 _ rfl (he _ (Array.mem_of_getElem? (i := 1) rfl) (by kernel_rfl))
            clear hp he
            go_simp
            exact hK _ _ (Aside.refl _ _) (getD_put_self ac 23 _ (by show _ < ac.tmps.size; omega)) (hJ.other (by decide) (by decide) (by decide) id id id fun _ h => h)
          · omega
        · intro L ac u hf hR0 hp hJ K' hK
          have hR : Aside B w1 u := (aside_drew _ _).trans hR0
          have m23 : ac.tmps.getD 23 undef = .pointer (some ⟨gb, j, none⟩) := (hp 6 _ (by decide) rfl).2
          obtain ⟨x, m22⟩ := (hp 5 _ (by decide) rfl).2
          have m22 : ac.tmps.getD 22 undef = .int .i64 x := m22
          have hI1 := HN0.out.asideB hB hR (hJ.2.1 (hp 5 _ (by decide) rfl).1)
          have HN1 : Hid (MemI n0 B a len cap (q + 3 * (j : Int) + 1 + 1) w V (u.setCell ⟨gb, j, none⟩ (.int .i64 x)) ga gb gc) := hI1.set hB _ _ (by omega) _
          obtain ⟨y, hy⟩ := hI1.sb.c j (by omega)
          have hyf := hI1.sb.f j
          clear hI1 hp hJ hR0 hR
          obtain ⟨f, ea, hfv⟩ := act_lit ac 32 hf.size
          have md : ac.defers = [] := hf.defers
          rw [md] at ea
          have m0 := hf.at_ 0 (by kernel_rfl)
          have m1 := hf.at_ 1 (by kernel_rfl)
          have m2 := hf.at_ 2 (by kernel_rfl)
          have m3 := hf.at_ 3 (by kernel_rfl)
          have m4 := hf.at_ 4 (by kernel_rfl)
          have m5 := hf.at_ 5 (by kernel_rfl)
          have m6 := hf.at_ 6 (by kernel_rfl)
          have m7 := hf.at_ 7 (by kernel_rfl)
          have m8 := hf.at_ 8 (by kernel_rfl)
          have m9 := hf.at_ 9 (by kernel_rfl)
          have m10 := hf.at_ 10 (by kernel_rfl)
          have m11 := hf.at_ 11 (by kernel_rfl)
          have m12 := hf.at_ 12 (by kernel_rfl)
          have m13 := hf.at_ 13 (by kernel_rfl)
          have m14 := hf.at_ 14 (by kernel_rfl)
          have m15 := hf.at_ 15 (by kernel_rfl)
          have m16 := hf.at_ 16 (by kernel_rfl)
          have m24 := hf.at_ 24 (by kernel_rfl)
          have m25 := hf.at_ 25 (by kernel_rfl)
          have m26 := hf.at_ 26 (by kernel_rfl)
          have m27 := hf.at_ 27 (by kernel_rfl)
          have m28 := hf.at_ 28 (by kernel_rfl)
          have m29 := hf.at_ 29 (by kernel_rfl)
          have m30 := hf.at_ 30 (by kernel_rfl)
          have m31 := hf.at_ 31 (by kernel_rfl)
          rw [← hfv] at m0 m1 m2 m3 m4 m5 m6 m7 m8 m9 m10 m11 m12 m13 m14 m15 m16 m24 m25 m26 m27 m28 m29 m30 m31 m22 m23
          simp only [Array.getD_eq_getD_getElem?, List.getElem?_toArray, List.getElem?_cons_succ, List.getElem?_cons_zero, Option.getD_some] at m0 m1 m2 m3 m4 m5 m6 m7 m8 m9 m10 m11 m12 m13 m14 m15 m16 m24 m25 m26 m27 m28 m29 m30 m31
          simp only [List.range, List.range.loop, List.map_cons, List.map_nil, m0, m1, m2, m3, m4, m5, m6, m7, m8, m9, m10, m11, m12, m13, m14, m15, m16, m24, m25, m26, m27, m28, m29, m30, m31, m22, m23] at ea
          subst ea
          clear m0 m1 m2 m3 m4 m5 m6 m7 m8 m9 m10 m11 m12 m13 m14 m15 m16 m24 m25 m26 m27 m28 m29 m30 m31 m22 m23 hfv md hf
          go_simp
          refine hK _ _ ?_
          clear hK
          clear hy hyf
          obtain ⟨w2, hw2⟩ : ∃ w2, u.setCell ⟨gb, j, none⟩ (.int .i64 x) = w2 := ⟨_, rfl⟩
          rw [hw2] at HN1 ⊢
          clear hw2
          go_wp2_with fail
          have hl2 := HN1.out.lt
          refine wp_region_last (R := Aside B) (Φ := fun i v u => match i with
              | 0 => v = .pointer (some ⟨V, 2, none⟩)
              | 1 => v = .slice (some ⟨gc, 0, none⟩) 6 6
              | 2 => v = .int .i64 j
              | 3 => v = .pointer (some ⟨B, 0, none⟩)
              | 4 => NewInts u V 6 v
              | 5 => ∃ x, v = .int .i64 x
              | 6 => v = .pointer (some ⟨gc, j, none⟩)
              | _ => True)
            (J := KidJ 5 7 0 (RdQ n0 B a len cap (q + 3 * (j : Int) + 1 + 1)) (RdQ n0 B a len cap (q + 3 * (j : Int) + 1 + 1 + 1)) (fun _ => True) (fun _ _ => True))
            7 _ rfl rfl (by kernel_rfl) (by kernel_rfl) (by kernel_rfl) (by kernel_rfl) (Aside.refl _ _) (aside_trans B) ?_ ?_ ?_ ?_
          · intro i v u u' hr
            match i with
            | 0 | 1 | 2 | 3 | 5 | 6 | _ + 7 => exact fun h => h
            | 4 => exact fun h => NewInts.aside h hr (by omega)
          · exact ⟨fun _ => HN1.out.rd.kept (Below.drew (Below.refl _ _)), fun h => by simp at h, fun _ => trivial, fun _ => trivial⟩
          · intro i o ho hin L ac u hf hR0 hLs hLi hp he hJ K' hK
            have hR : Aside B w2 u := (aside_drew _ _).trans hR0
            have hsz' : ac.tmps.size = 32 := hf.size
            have hus := hR.size
            rcases i with _ | _ | _ | _ | _ | _ | _ | i
            · obtain rfl := Option.some.inj ho
              have q3 : ac.tmps.getD 3 undef = .pointer (some ⟨V, 0, none⟩) := hf.at_ 3 (by kernel_rfl)
              clear hp he
              go_simp
              exact hK _ _ (Aside.refl _ _) (getD_put_self ac 24 _ (by show _ < ac.tmps.size; omega)) (hJ.other (by decide) (by decide) (by decide) id id id fun _ h => h)
            · obtain rfl := Option.some.inj ho
              have q24 : ac.tmps.getD 24 undef = .pointer (some ⟨V, 2, none⟩) := hp 0 _ rfl (he _ (Array.mem_of_getElem? (i := 0) rfl) (by kernel_rfl))
              have c0 := (HN1.out.var.at_ (hR.at_ (by omega) (by omega))).c2
              clear hp he
              go_simp
              exact hK _ _ (Aside.refl _ _) (getD_put_self ac 25 _ (by show _ < ac.tmps.size; omega)) (hJ.other (by decide) (by decide) (by decide) id id id fun _ h => h)
            · obtain rfl := Option.some.inj ho
              have q4 : ac.tmps.getD 4 undef = .int .i64 j := hf.at_ 4 (by kernel_rfl)
              clear hp he
              go_simp
              exact hK _ _ (Aside.refl _ _) (getD_put_self ac 26 _ (by show _ < ac.tmps.size; omega)) (hJ.other (by decide) (by decide) (by decide) id id id fun _ h => h)
            · obtain rfl := Option.some.inj ho
              have q0 : ac.tmps.getD 0 undef = .pointer (some ⟨B, 0, none⟩) := hf.at_ 0 (by kernel_rfl)
              clear hp he
              go_simp
              exact hK _ _ (Aside.refl _ _) (getD_put_self ac 27 _ (by show _ < ac.tmps.size; omega)) (hJ.other (by decide) (by decide) (by decide) id id id fun _ h => h)
            · obtain rfl := Option.some.inj ho
              clear hp he
              go_simp
              exact hK _ _ (aside_alloc _ _ _) ⟨u.heap.size, getD_put_self ac 28 _ (by show _ < ac.tmps.size; omega), by omega, by simp, by exact ints_new _ _ _ _ rfl rfl⟩ (hJ.other (by decide) (by decide) (by decide) (fun h => h.kept ((Below.refl _ _).alloc (Nat.le_refl _) _)) (fun h => h.kept ((Below.refl _ _).alloc (Nat.le_refl _) _)) id fun _ h => h)
            · obtain rfl := Option.some.inj ho
              have q27 : ac.tmps.getD 27 undef = .pointer (some ⟨B, 0, none⟩) := hp 3 _ rfl (he _ (Array.mem_of_getElem? (i := 0) rfl) (by kernel_rfl))
              obtain ⟨g, q28, hg1, hg2, hgc⟩ := hp 4 _ rfl (he _ (Array.mem_of_getElem? (i := 1) rfl) (by kernel_rfl))
              have q28 : ac.tmps.getD 28 undef = .slice (some ⟨g, 0, none⟩) 6 6 := q28
              have hrd := hJ.1 hLi
              clear hp he
              go_simp
              refine (numQ n0 u B a len cap _ g 0 6 6 hrd (by omega) (by omega) (by omega) (by omega) hgc).mono ?_
              rintro e1 u' ⟨x, i, rfl, _, _, hrd', hA⟩
              exact hK _ _ hA ⟨x, getD_put_self ac 29 _ (by show _ < ac.tmps.size; omega)⟩ (hJ.call (by show 5 < L.size; rw [hLs]; decide) (by decide) (by decide) hrd' id fun _ h => h)
            · obtain rfl := Option.some.inj ho
              have q25 : ac.tmps.getD 25 undef = .slice (some ⟨gc, 0, none⟩) 6 6 := hp 1 _ rfl (he _ (Array.mem_of_getElem? (i := 0) rfl) (by kernel_rfl))
              have q26 : ac.tmps.getD 26 undef = .int .i64 j := hp 2 _ rfl (he _ (Array.mem_of_getElem? (i := 1) rfl) (by kernel_rfl))
              clear hp he
              go_simp
              exact hK _ _ (Aside.refl _ _) (getD_put_self ac 30 _ (by show _ < ac.tmps.size; omega)) (hJ.other (by decide) (by decide) (by decide) id id id fun _ h => h)
            · omega
          · intro L ac u hf hR0 hp hJ K' hK
            have hR : Aside B w2 u := (aside_drew _ _).trans hR0
            have m30 : ac.tmps.getD 30 undef = .pointer (some ⟨gc, j, none⟩) := (hp 6 _ (by decide) rfl).2
            obtain ⟨x, m29⟩ := (hp 5 _ (by decide) rfl).2
            have m29 : ac.tmps.getD 29 undef = .int .i64 x := m29
            have hI1 := HN1.out.asideB hB hR (hJ.2.1 (hp 5 _ (by decide) rfl).1)
            have HN2 : Hid (MemI n0 B a len cap (q + 3 * (j : Int) + 1 + 1 + 1) w V (u.setCell ⟨gc, j, none⟩ (.int .i64 x)) ga gb gc) := hI1.set hB _ _ (by omega) _
            obtain ⟨y, hy⟩ := hI1.sc.c j (by omega)
            have hyf := hI1.sc.f j
            clear hI1 hp hJ hR0 hR
            obtain ⟨f, ea, hfv⟩ := act_lit ac 32 hf.size
            have md : ac.defers = [] := hf.defers
            rw [md] at ea
            have m0 := hf.at_ 0 (by kernel_rfl)
            have m1 := hf.at_ 1 (by kernel_rfl)
            have m2 := hf.at_ 2 (by kernel_rfl)
            have m3 := hf.at_ 3 (by kernel_rfl)
            have m4 := hf.at_ 4 (by kernel_rfl)
            have m5 := hf.at_ 5 (by kernel_rfl)
            have m6 := hf.at_ 6 (by kernel_rfl)
            have m7 := hf.at_ 7 (by kernel_rfl)
            have m8 := hf.at_ 8 (by kernel_rfl)
            have m9 := hf.at_ 9 (by kernel_rfl)
            have m10 := hf.at_ 10 (by kernel_rfl)
            have m11 := hf.at_ 11 (by kernel_rfl)
            have m12 := hf.at_ 12 (by kernel_rfl)
            have m13 := hf.at_ 13 (by kernel_rfl)
            have m14 := hf.at_ 14 (by kernel_rfl)
            have m15 := hf.at_ 15 (by kernel_rfl)
            have m16 := hf.at_ 16 (by kernel_rfl)
            have m17 := hf.at_ 17 (by kernel_rfl)
            have m18 := hf.at_ 18 (by kernel_rfl)
            have m19 := hf.at_ 19 (by kernel_rfl)
            have m20 := hf.at_ 20 (by kernel_rfl)
            have m21 := hf.at_ 21 (by kernel_rfl)
            have m22 := hf.at_ 22 (by kernel_rfl)
            have m23 := hf.at_ 23 (by kernel_rfl)
            have m31 := hf.at_ 31 (by kernel_rfl)
            rw [← hfv] at m0 m1 m2 m3 m4 m5 m6 m7 m8 m9 m10 m11 m12 m13 m14 m15 m16 m17 m18 m19 m20 m21 m22 m23 m31 m29 m30
            simp only [Array.getD_eq_getD_getElem?, List.getElem?_toArray, List.getElem?_cons_succ, List.getElem?_cons_zero, Option.getD_some] at m0 m1 m2 m3 m4 m5 m6 m7 m8 m9 m10 m11 m12 m13 m14 m15 m16 m17 m18 m19 m20 m21 m22 m23 m31
            simp only [List.range, List.range.loop, List.map_cons, List.map_nil, m0, m1, m2, m3, m4, m5, m6, m7, m8, m9, m10, m11, m12, m13, m14, m15, m16, m17, m18, m19, m20, m21, m22, m23, m31, m29, m30] at ea
            subst ea
            clear m0 m1 m2 m3 m4 m5 m6 m7 m8 m9 m10 m11 m12 m13 m14 m15 m16 m17 m18 m19 m20 m21 m22 m23 m31 m29 m30 hfv md hf
            go_simp
            refine hK _ _ ?_
            clear hK
            go_wp2
            go_roundw
            case rel => exact ⟨j + 1, by go_num, by omega, by have := HN2.out; rw [show q + 3 * (j : Int) + 1 + 1 + 1 = q + 3 * ((j + 1 : Nat) : Int) by omega] at this; exact this⟩
            case measure => simp [intOf]; omega
    · obtain rfl : j = 4 := by omega
      have hI := HR.out
      have hl := hI.lt
      obtain ⟨u9, hu9, T9, N9, S9, B9⟩ := three_store hI.res (.slice (some ⟨ga, 0, none⟩) 6 6) (.slice (some ⟨gb, 0, none⟩) 6 6) (.slice (some ⟨gc, 0, none⟩) 6 6)
      have HU : Hid (_ = u9) := hu9
      have HT : Hid (Three u9 w.heap.size _ _ _) := T9
      have HX : Hid ((Six u9 ga ∧ Six u9 gb ∧ Six u9 gc) ∧ (w.heap.size ≤ ga ∧ ga < u9.heap.size) ∧ (w.heap.size ≤ gb ∧ gb < u9.heap.size) ∧ (w.heap.size ≤ gc ∧ gc < u9.heap.size) ∧ RdQ n0 B a len cap (q + 20) u9 ∧ Aside B w u9) :=
        ⟨⟨hI.sa.at_ (N9 _ (by omega)), hI.sb.at_ (N9 _ (by omega)), hI.sc.at_ (N9 _ (by omega))⟩, by omega, by omega, by omega, (hI.rd.block (by omega) fun k hk => N9 k (by omega)).mono (by omega), by rw [← hu9]; exact ((hI.aside.setNew (Nat.le_refl _) _).setNew (Nat.le_refl _) _).setNew (Nat.le_refl _) _⟩
      obtain ⟨c0, c1, c2, ff⟩ := hI.res
      obtain ⟨y0, y1, y2, _⟩ := hI.var
      have f0 := ff 0
      have f1 := ff 1
      have f2 := ff 2
      clear ff hu9 T9 B9 N9 hI HR
      go_wp2
      rw [HU.out]
      obtain ⟨r0, r1, r2, _⟩ := HT.out
      exact bodyPost_ret (v := .agg #[.slice (some ⟨ga, 0, none⟩) 6 6, .slice (some ⟨gb, 0, none⟩) 6 6, .slice (some ⟨gc, 0, none⟩) 6 6]) (by simp [results, Try.results68, go_sem, r0, r1, r2]) rfl ⟨ga, gb, gc, rfl, HX.out⟩
end Go.Proofs.Ytdhmioelmcdflaa
