/-
  What turns while statements are done, by the program: the runner's on and take, a place that is set.
-/
import Derived.Test.YtdlcdllmhacaaaaGreatDoorRunSpec3
import Derived.Test.YtdlcdllmhacaaaaGreatDoorStmtFit
import Derived.Test.YtdlcdllmhacaaaaGreatDoorM3
import Derived.Test.YtdlcdllmhacaaaaGreatDoorImplH
namespace Go.Proofs.YtdlcdllmhacaaaaGreatDoor
open Go.ChangeShapes Go.WideShapes Go.ChangeAt Go.RowKit
set_option linter.unusedVariables false
set_option maxRecDepth 100000
variable {A : Nat}

/-- A variable of four cells that may be written. -/
structure FourV (u : World) (V : Nat) (x y z t : Value) : Prop where
  c0 : u.cell? ⟨V, 0, none⟩ = some x
  c1 : u.cell? ⟨V, 1, none⟩ = some y
  c2 : u.cell? ⟨V, 2, none⟩ = some z
  c3 : u.cell? ⟨V, 3, none⟩ = some t
  f : ∀ o, u.frozen? ⟨V, o, none⟩ = false

theorem fourV_new (u : World) (x y z t : Value) (ty : TypeId) : FourV (u.alloc (.cells #[x, y, z, t] ty)) u.heap.size x y z t :=
  ⟨World.cell?_alloc_new _ _ _ _, World.cell?_alloc_new _ _ _ _, World.cell?_alloc_new _ _ _ _, World.cell?_alloc_new _ _ _ _, fun o => World.frozen?_alloc_new _ _ _ _⟩
theorem FourV.at_ {u u' : World} {V : Nat} {x y z t : Value} (h : FourV u V x y z t) (hk : u'.heap[V]? = u.heap[V]?) : FourV u' V x y z t :=
  ⟨by rw [World.cell?_of_block (w := u) hk]; exact h.c0, by rw [World.cell?_of_block (w := u) hk]; exact h.c1, by rw [World.cell?_of_block (w := u) hk]; exact h.c2, by rw [World.cell?_of_block (w := u) hk]; exact h.c3, fun i => by rw [World.frozen?_of_block (w := u) hk]; exact h.f i⟩

/-- Its first three cells are written. -/
theorem four_store {u : World} {R : Nat} {a b c t : Value} (h : FourV u R a b c t) (x y z : Value) :
    ∃ u1, ((u.setCell ⟨R, 0, none⟩ x).setCell ⟨R, 1, none⟩ y).setCell ⟨R, 2, none⟩ z = u1 ∧ FourV u1 R x y z t ∧ (∀ k, k ≠ R → u1.heap[k]? = u.heap[k]?) ∧ u1.heap.size = u.heap.size ∧ Below R u u1 := by
  refine ⟨_, rfl, ⟨?_, ?_, ?_, ?_, ?_⟩, fun k hk => by rw [Below.heap_setCell _ _ _ _ hk, Below.heap_setCell _ _ _ _ hk, Below.heap_setCell _ _ _ _ hk], by simp, (((Below.refl _ _).setCell (p := ⟨R, 0, none⟩) (Nat.le_refl _) _).setCell (p := ⟨R, 1, none⟩) (Nat.le_refl _) _).setCell (p := ⟨R, 2, none⟩) (Nat.le_refl _) _⟩
  · rw [cell_set_other _ (.inr (by omega)), cell_set_other _ (.inr (by omega))]; exact World.cell?_setCell_same _ _ _ h.c0
  · rw [cell_set_other _ (.inr (by omega))]; exact World.cell?_setCell_same _ _ _ (by rw [cell_set_other _ (.inr (by omega))]; exact h.c1)
  · exact World.cell?_setCell_same _ _ _ (by rw [cell_set_other _ (.inr (by omega)), cell_set_other _ (.inr (by omega))]; exact h.c2)
  · rw [cell_set_other _ (.inr (by omega)), cell_set_other _ (.inr (by omega)), cell_set_other _ (.inr (by omega))]; exact h.c3
  · intro o; rw [World.frozen?_setCell, World.frozen?_setCell, World.frozen?_setCell]; exact h.f o

/-- Its last cell is written. -/
theorem four_last {u : World} {R : Nat} {a b c t : Value} (h : FourV u R a b c t) (x : Value) :
    ∃ u1, u.setCell ⟨R, 3, none⟩ x = u1 ∧ FourV u1 R a b c x ∧ (∀ k, k ≠ R → u1.heap[k]? = u.heap[k]?) ∧ u1.heap.size = u.heap.size ∧ Below R u u1 := by
  refine ⟨_, rfl, ⟨?_, ?_, ?_, ?_, ?_⟩, fun k hk => Below.heap_setCell _ _ _ _ hk, by simp, (Below.refl _ _).setCell (p := ⟨R, 3, none⟩) (Nat.le_refl _) _⟩
  · rw [cell_set_other _ (.inr (by omega))]; exact h.c0
  · rw [cell_set_other _ (.inr (by omega))]; exact h.c1
  · rw [cell_set_other _ (.inr (by omega))]; exact h.c2
  · exact World.cell?_setCell_same _ _ _ h.c3
  · intro o; rw [World.frozen?_setCell]; exact h.f o

/-- A runner: a memory of its own, and the fuel that is left. -/
def RunV (A : Nat) (w : World) (B : Nat) (d : MemD) (f : Nat) : Prop :=
  ∃ ma mb mc lo hi, MO w lo hi (.agg #[ma, mb, mc]) d ∧ hi ≤ w.heap.size ∧ ((B < lo ∨ hi ≤ B) ∧ A ≤ lo ∧ A ≤ B) ∧ FourV w B ma mb mc (.int .i64 f)

theorem RunV.below {w w' : World} {B : Nat} {d : MemD} {f : Nat} (h : RunV A w B d f) (hb : Below w.heap.size w w') (hB : B < w.heap.size) : RunV A w' B d f := by
  obtain ⟨ma, mb, mc, lo, hi, h1, h2, h3, h4⟩ := h
  exact ⟨ma, mb, mc, lo, hi, h1.below hb h2, Nat.le_trans h2 hb.size, h3, h4.at_ (hb.block B hB)⟩

theorem out_put_one {w u u2 : World} {B : Nat} (h : Below w.heap.size w u) (hn : ∀ k, k ≠ B → u2.heap[k]? = u.heap[k]?) (hs : u2.heap.size = u.heap.size) (hb : Below B u u2) (hB : B < w.heap.size) : Out B (B + 1) w u2 :=
  ⟨hb.os.trans h.os, hb.tape.trans h.tape, hb.output.trans h.output, by rw [hs]; exact h.size, fun k hk ho => by rw [hn k (by omega)]; exact h.block k hk⟩

theorem exprOf_eval {e : ExprD} {d : MemD} (he : exprOk e = true) (hd : memOk d = true) : exprOf e d = evalD 6 d e := by unfold exprOf; rw [he, hd]; rfl

theorem iOn2_any (n : Int) (w : World) : Calls Tryz.prog 194 #[.int .i64 n] w fun e w' => e = .returned (.bool (n != 0)) ∧ w' = w := by
  go_enter Tryz.func194, Tryz.ntmps194
  go_wp2
  go_ret
  exact ⟨rfl, rfl⟩

set_option maxHeartbeats 4000000 in
theorem on_any (w : World) (B lo' hi' : Nat) (e : ExprD) (ax : Option Go.Addr) (cx : Nat) (d : MemD) (f : Nat) (hv : RunV A w B d f) (hB : B < w.heap.size) (hx : KR w lo' hi' (.slice ax e.kids.length cx) e.kids) (hhi' : hi' ≤ w.heap.size) (hm : manyL e.kids ≤ 1048576) (he : exprOk e = true) (hd : memOk d = true) :
    Calls Tryz.prog 193 #[.pointer (some ⟨B, 0, none⟩), .agg #[.int .i64 e.k, .int .i64 e.n, .int .i64 e.ak, .int .i64 e.at_, .slice ax e.kids.length cx]] w fun en w' => en = .returned (.bool (onD e d)) ∧ Below w.heap.size w w' := by
  obtain ⟨ma, mb, mc, lo, hi, hmo, hhi, hap, h4⟩ := hv
  have hof := exprOf_eval he hd
  obtain ⟨pa, la, ca, pb, lb, cb, pc, lc, cc, hagg⟩ := hmo.mi.aggs
  simp only [Value.agg.injEq, Array.mk.injEq, List.cons.injEq, and_true] at hagg
  obtain ⟨rfl, rfl, rfl⟩ := hagg
  have HX : Hid (KR w lo' hi' (.slice ax e.kids.length cx) e.kids ∧ MO w lo hi (.agg #[.slice pa la ca, .slice pb lb cb, .slice pc lc cc]) d) := ⟨hx, hmo⟩
  clear hx hmo
  show Calls _ _ _ _ fun en w' => en = .returned (.bool (evalD 6 d e != 0)) ∧ Below w.heap.size w w'
  go_enter Tryz.func193, Tryz.ntmps193
  go_wp2_with fail
  obtain ⟨u0, hu0, G0, F0, S0⟩ : ∃ u0, w.alloc (.cells #[.int .i64 e.k, .int .i64 e.n, .int .i64 e.ak, .int .i64 e.at_, .slice ax e.kids.length cx] 58) = u0 ∧ Below w.heap.size w u0 ∧ Five u0 w.heap.size (.int .i64 e.k) (.int .i64 e.n) (.int .i64 e.ak) (.int .i64 e.at_) (.slice ax e.kids.length cx) ∧ u0.heap.size = w.heap.size + 1 :=
    ⟨_, rfl, (Below.refl w.heap.size w).alloc (Nat.le_refl _) _, five_new w _ _ _ _ _ _, by simp⟩
  rw [hu0]
  clear hu0
  have H4 : Hid (FourV u0 B (.slice pa la ca) (.slice pb lb cb) (.slice pc lc cc) (.int .i64 f)) := h4.at_ (G0.block B hB)
  have HF : Hid (Five u0 w.heap.size (.int .i64 e.k) (.int .i64 e.n) (.int .i64 e.ak) (.int .i64 e.at_) (.slice ax e.kids.length cx)) := F0
  clear h4 F0
  refine wp_region_last (R := Grow) (Φ := fun i v u => match i with
      | 0 => v = .agg #[.int .i64 e.k, .int .i64 e.n, .int .i64 e.ak, .int .i64 e.at_, .slice ax e.kids.length cx]
      | 1 => v = .pointer (some ⟨B, 0, none⟩)
      | 2 => v = .pointer (some ⟨B, 0, none⟩)
      | 3 => v = .pointer (some ⟨B, 0, none⟩)
      | 4 => v = .agg #[.slice pa la ca, .slice pb lb cb, .slice pc lc cc]
      | 5 => v = .int .i64 (evalD 6 d e)
      | 6 => v = .bool (evalD 6 d e != 0)
      | _ => True)
    (J := fun L a u => True) 7 _ rfl rfl (by kernel_rfl) (by kernel_rfl) (by kernel_rfl) (by kernel_rfl) (Below.refl _ _) grow_trans ?_ trivial ?_ ?_
  · intro i v u u' hr
    match i with
    | 0 | 1 | 2 | 3 | 4 | 5 | 6 | _ + 7 => exact fun h => h
  · intro i o ho hin L ac u hf hR0 hLs hLi hp he hJ K' hK
    have hR : Grow u0 u := (Below.drew (Below.refl _ _)).trans hR0
    have hsz' : ac.tmps.size = 12 := hf.size
    have hus := hR.size
    have hRw : Below w.heap.size w u := G0.trans (hR.mono (by omega))
    rcases i with _ | _ | _ | _ | _ | _ | _ | i
    · obtain rfl := Option.some.inj ho
      have q3 : ac.tmps.getD 3 undef = .pointer (some ⟨w.heap.size, 0, none⟩) := hf.at_ 3 (by kernel_rfl)
      clear hp he
      obtain ⟨k0, k1, k2, k3, k4, _⟩ := HF.out.under hR (by omega)
      go_simp
      exact hK _ _ (Below.refl _ _) (getD_put_self ac 5 _ (by show _ < ac.tmps.size; omega)) trivial
    · obtain rfl := Option.some.inj ho
      have q0 : ac.tmps.getD 0 undef = .pointer (some ⟨B, 0, none⟩) := hf.at_ 0 (by kernel_rfl)
      clear hp he
      go_simp
      exact hK _ _ (Below.refl _ _) (getD_put_self ac 6 _ (by show _ < ac.tmps.size; omega)) trivial
    · obtain rfl := Option.some.inj ho
      have q6 : ac.tmps.getD 6 undef = .pointer (some ⟨B, 0, none⟩) := hp 1 _ rfl (he _ (Array.mem_of_getElem? (i := 0) rfl) (by kernel_rfl))
      clear hp he
      go_simp
      exact hK _ _ (Below.refl _ _) (getD_put_self ac 7 _ (by show _ < ac.tmps.size; omega)) trivial
    · obtain rfl := Option.some.inj ho
      have q7 : ac.tmps.getD 7 undef = .pointer (some ⟨B, 0, none⟩) := hp 2 _ rfl (he _ (Array.mem_of_getElem? (i := 0) rfl) (by kernel_rfl))
      clear hp he
      go_simp
      exact hK _ _ (Below.refl _ _) (getD_put_self ac 8 _ (by show _ < ac.tmps.size; omega)) trivial
    · obtain rfl := Option.some.inj ho
      have q8 : ac.tmps.getD 8 undef = .pointer (some ⟨B, 0, none⟩) := hp 3 _ rfl (he _ (Array.mem_of_getElem? (i := 0) rfl) (by kernel_rfl))
      clear hp he
      obtain ⟨c0, c1, c2, c3, _⟩ := H4.out.at_ (hR.block B (by omega))
      go_simp
      exact hK _ _ (Below.refl _ _) (getD_put_self ac 9 _ (by show _ < ac.tmps.size; omega)) trivial
    · obtain rfl := Option.some.inj ho
      have q5 : ac.tmps.getD 5 undef = .agg #[.int .i64 e.k, .int .i64 e.n, .int .i64 e.ak, .int .i64 e.at_, .slice ax e.kids.length cx] := hp 0 _ rfl (he _ (Array.mem_of_getElem? (i := 0) rfl) (by kernel_rfl))
      have q9 : ac.tmps.getD 9 undef = .agg #[.slice pa la ca, .slice pb lb cb, .slice pc lc cc] := hp 4 _ rfl (he _ (Array.mem_of_getElem? (i := 1) rfl) (by kernel_rfl))
      clear hp he
      go_simp
      refine (iExprOf_any u lo' hi' lo hi _ _ e d ⟨_, rfl, HX.out.1.under hRw hhi'⟩ (HX.out.2.below hRw hhi).mi (by omega) (by omega) hm).mono ?_; rw [hof]
      rintro e1 u' ⟨rfl, hbu⟩
      exact hK _ _ hbu (getD_put_self ac 10 _ (by show _ < ac.tmps.size; omega)) trivial
    · obtain rfl := Option.some.inj ho
      have q10 : ac.tmps.getD 10 undef = .int .i64 (evalD 6 d e) := hp 5 _ rfl (he _ (Array.mem_of_getElem? (i := 0) rfl) (by kernel_rfl))
      clear hp he
      go_simp
      refine (iOn2_any (evalD 6 d e) u).mono ?_
      rintro e1 u' ⟨rfl, rfl⟩
      exact hK _ _ (Below.refl _ _) (getD_put_self ac 11 _ (by show _ < ac.tmps.size; omega)) trivial
    · omega
  · intro L ac u hf hR0 hp hJ K' hK
    have hR : Grow u0 u := (Below.drew (Below.refl _ _)).trans hR0
    have hus := hR.size
    have hRw : Below w.heap.size w u := G0.trans (hR.mono (by omega))
    have m11 : ac.tmps.getD 11 undef = .bool (evalD 6 d e != 0) := (hp 6 _ (by decide) rfl).2
    clear hp hJ hR0 hR H4 HF HX
    obtain ⟨fq, ea, hfv⟩ := act_lit ac 12 hf.size
    have md : ac.defers = [] := hf.defers
    rw [md] at ea
    have m0 := hf.at_ 0 (by kernel_rfl)
    have m1 := hf.at_ 1 (by kernel_rfl)
    have m2 := hf.at_ 2 (by kernel_rfl)
    have m3 := hf.at_ 3 (by kernel_rfl)
    rw [← hfv] at m0 m1 m2 m3 m11
    simp only [Array.getD_eq_getD_getElem?, List.getElem?_toArray, List.getElem?_cons_succ, List.getElem?_cons_zero, Option.getD_some] at m0 m1 m2 m3
    simp only [List.range, List.range.loop, List.map_cons, List.map_nil, m0, m1, m2, m3, m11] at ea
    subst ea
    clear m0 m1 m2 m3 m11 hfv md hf
    go_simp
    refine hK _ _ ?_
    clear hK
    go_wp2
    go_ret
    exact ⟨rfl, hRw⟩

set_option maxHeartbeats 1000000 in
theorem take_zero (w : World) (B : Nat) (d : MemD) (er : Value) (hv : RunV A w B d 0) (hG : w.cell? ⟨0, 0, none⟩ = some er) (hI : ∃ t v, er = .iface t v) :
    Calls Tryz.prog 168 #[.pointer (some ⟨B, 0, none⟩)] w fun en w' => en = .returned er ∧ w' = w := by
  obtain ⟨ma, mb, mc, lo, hi, hmo, hhi, hap, h4⟩ := hv
  obtain ⟨t, v, rfl⟩ := hI
  have c3 := h4.c3
  clear h4 hmo
  go_enter Tryz.func168, Tryz.ntmps168
  go_wp2
  go_ret
  exact ⟨rfl, rfl⟩

set_option maxHeartbeats 1000000 in
theorem take_some (w : World) (B : Nat) (d : MemD) (f : Nat) (hv : RunV A w B d (f + 1)) (hB : B < w.heap.size) (hf : f ≤ 100) :
    Calls Tryz.prog 168 #[.pointer (some ⟨B, 0, none⟩)] w fun en w' => en = .returned .nilIface ∧ RunV A w' B d f ∧ Out B (B + 1) w w' := by
  obtain ⟨ma, mb, mc, lo, hi, hmo, hhi, hap, h4⟩ := hv
  obtain ⟨u2, hu2, T2, N2, S2, B2⟩ := four_last h4 (.int .i64 f)
  have HU2 : Hid (_ = u2) := hu2
  have HO : Hid (RunV A u2 B d f ∧ Out B (B + 1) w u2) := ⟨⟨_, _, _, lo, hi, hmo.kept fun k h1 h2 => N2 k (by omega), by omega, hap, T2⟩, out_put_one (Below.refl _ _) N2 S2 B2 hB⟩
  have c3 := h4.c3
  have cf := h4.f 3
  have hne : ((f : Int) + 1 == 0) = false := by rw [beq_eq_false_iff_ne]; omega
  have hcast : ((f + 1 : Nat) : Int) = (f : Int) + 1 := by omega
  rw [hcast] at c3
  clear h4 hmo hu2 T2 N2 B2 hcast
  go_enter Tryz.func168, Tryz.ntmps168
  go_wp2
  rw [HU2.out]
  go_ret
  exact ⟨rfl, HO.out.1, HO.out.2⟩

set_option maxHeartbeats 4000000 in
theorem setDo_any (w : World) (B lo' hi' : Nat) (s : StmtD) (ax ay az : Option Go.Addr) (cx cy cz : Nat) (d : MemD) (f : Nat) (hv : RunV A w B d f) (hB : B < w.heap.size) (hx : KR w lo' hi' (.slice ax s.e.kids.length cx) s.e.kids) (hhi' : hi' ≤ w.heap.size) (hm : manyL s.e.kids ≤ 1048576) (he : exprOk s.e = true) (hd : memOk d = true) (ha : addrOk ⟨s.tk, s.ta⟩ = true) :
    Calls Tryz.prog 181 #[.agg #[.int .i64 s.k, .int .i64 s.tk, .int .i64 s.ta, .int .i64 s.e.k, .int .i64 s.e.n, .int .i64 s.e.ak, .int .i64 s.e.at_, .slice ax s.e.kids.length cx, .slice ay s.th.length cy, .slice az s.el.length cz], .pointer (some ⟨B, 0, none⟩)] w fun en w' => en = .returned .nilIface ∧ RunV A w' B (memSet d ⟨s.tk, s.ta⟩ (evalD 6 d s.e)) f ∧ Out B (B + 1) w w' := by
  obtain ⟨ma, mb, mc, lo, hi, hmo, hhi, hap, h4⟩ := hv
  have hof := exprOf_eval he hd
  have HPT : Hid (memPut d ⟨s.tk, s.ta⟩ (evalD 6 d s.e) = memSet d ⟨s.tk, s.ta⟩ (evalD 6 d s.e)) := by show memPut _ _ _ = _; unfold memPut; rw [if_pos hd, if_pos ha]
  obtain ⟨qa, xa, ya, qb, xb, yb, qc, xc, yc, hagg⟩ := hmo.mi.aggs
  simp only [Value.agg.injEq, Array.mk.injEq, List.cons.injEq, and_true] at hagg
  obtain ⟨rfl, rfl, rfl⟩ := hagg
  have HX : Hid (KR w lo' hi' (.slice ax s.e.kids.length cx) s.e.kids ∧ MO w lo hi (.agg #[.slice qa xa ya, .slice qb xb yb, .slice qc xc yc]) d) := ⟨hx, hmo⟩
  clear hx hmo
  go_enter Tryz.func181, Tryz.ntmps181
  go_wp2_with fail
  obtain ⟨u0, hu0, G0, T0, S0⟩ : ∃ u0, w.alloc (.cells #[.int .i64 s.k, .int .i64 s.tk, .int .i64 s.ta, .int .i64 s.e.k, .int .i64 s.e.n, .int .i64 s.e.ak, .int .i64 s.e.at_, .slice ax s.e.kids.length cx, .slice ay s.th.length cy, .slice az s.el.length cz] 139) = u0 ∧ Below w.heap.size w u0 ∧ TenW u0 w.heap.size (.int .i64 s.k) (.int .i64 s.tk) (.int .i64 s.ta) (.int .i64 s.e.k) (.int .i64 s.e.n) (.int .i64 s.e.ak) (.int .i64 s.e.at_) (.slice ax s.e.kids.length cx) (.slice ay s.th.length cy) (.slice az s.el.length cz) ∧ u0.heap.size = w.heap.size + 1 :=
    ⟨_, rfl, (Below.refl _ _).alloc (Nat.le_refl _) _, tenW_new _ _ _ _ _ _ _ _ _ _ _ _, by simp⟩
  rw [hu0]
  clear hu0
  have H4 : Hid (FourV u0 B (.slice qa xa ya) (.slice qb xb yb) (.slice qc xc yc) (.int .i64 f)) := h4.at_ (G0.block B hB)
  have HT : Hid (TenW u0 w.heap.size (.int .i64 s.k) (.int .i64 s.tk) (.int .i64 s.ta) (.int .i64 s.e.k) (.int .i64 s.e.n) (.int .i64 s.e.ak) (.int .i64 s.e.at_) (.slice ax s.e.kids.length cx) (.slice ay s.th.length cy) (.slice az s.el.length cz)) := T0
  clear h4 T0
  refine wp_region_dagC (R := Out B (B + 1)) (Φ := fun i v u => match i with
      | 0 => v = .pointer (some ⟨B, 0, none⟩)
      | 1 => v = .pointer (some ⟨B, 0, none⟩)
      | 2 => v = .pointer (some ⟨B, 0, none⟩)
      | 3 => v = .pointer (some ⟨B, 0, none⟩)
      | 4 => v = .agg #[.slice qa xa ya, .slice qb xb yb, .slice qc xc yc]
      | 5 => v = .pointer (some ⟨w.heap.size, 1, none⟩)
      | 6 => v = .agg #[.int .i64 s.tk, .int .i64 s.ta]
      | 7 => v = .pointer (some ⟨w.heap.size, 3, none⟩)
      | 8 => v = .agg #[.int .i64 s.e.k, .int .i64 s.e.n, .int .i64 s.e.ak, .int .i64 s.e.at_, .slice ax s.e.kids.length cx]
      | 9 => v = .pointer (some ⟨B, 0, none⟩)
      | 10 => v = .pointer (some ⟨B, 0, none⟩)
      | 11 => v = .pointer (some ⟨B, 0, none⟩)
      | 12 => v = .agg #[.slice qa xa ya, .slice qb xb yb, .slice qc xc yc]
      | 13 => v = .int .i64 (evalD 6 d s.e)
      | 14 => ∃ lo1 hi1, u0.heap.size ≤ lo1 ∧ hi1 ≤ u.heap.size ∧ MO u lo1 hi1 v (memSet d ⟨s.tk, s.ta⟩ (evalD 6 d s.e))
      | 15 => v = .pointer (some ⟨B, 0, none⟩)
      | 16 => v = .pointer (some ⟨B, 0, none⟩)
      | _ => True)
    (J := fun L a u => (L.getD 17 true = false → u.heap[B]? = u0.heap[B]?) ∧ (L.getD 17 true = true → RunV A u B (memSet d ⟨s.tk, s.ta⟩ (evalD 6 d s.e)) f)) (by kernel_rfl) (by kernel_rfl) (by kernel_rfl) (Out.refl _ _ _) (fun _ _ _ h k => h.trans k) ?_ ⟨fun _ => rfl, fun h => by simp at h⟩ ?_ ?_
  · intro i v u u' hr
    match i with
    | 0 | 1 | 2 | 3 | 4 | 5 | 6 | 7 | 8 | 9 | 10 | 11 | 12 | 13 | 15 | 16 | _ + 17 => exact fun h => h
    | 14 => exact fun ⟨a, b, h1, h2, h3⟩ => ⟨a, b, h1, Nat.le_trans h2 hr.size, h3.kept fun k h4 h5 => hr.block k (by omega) (by omega)⟩
  · intro i o ho L ac u hf hR0 hLs hLi hcl hp he hJ K' hK
    have hR : Out B (B + 1) u0 u := (out_of_below (Below.drew (Below.refl _ _)) _ _).trans hR0
    have hsz' : ac.tmps.size = 22 := hf.size
    have hus := hR.size
    have hMOu : u.heap[B]? = u0.heap[B]? → MO u lo hi (.agg #[.slice qa xa ya, .slice qb xb yb, .slice qc xc yc]) d := fun hBu => HX.out.2.kept fun k h1 h2 => by rw [hR.block k (by omega) (by omega)]; exact G0.block k (by omega)
    have hKRu : u.heap[B]? = u0.heap[B]? → KR u lo' hi' (.slice ax s.e.kids.length cx) s.e.kids := fun hBu => HX.out.1.kept fun k h1 h2 => by by_cases e : k = B; (subst e; rw [hBu]; exact G0.block k (by omega)); rw [hR.block k (by omega) (by omega)]; exact G0.block k (by omega)
    rcases i with _ | _ | _ | _ | _ | _ | _ | _ | _ | _ | _ | _ | _ | _ | _ | _ | _ | _ | i
    · obtain rfl := Option.some.inj ho
      have h17 : L.getD 17 true = false := hcl.not (i := 17) (j := 0) (by kernel_rfl) hLi
      have hBu := hJ.1 h17
      have q1 : ac.tmps.getD 1 undef = .pointer (some ⟨B, 0, none⟩) := hf.at_ 1 (by kernel_rfl)
      clear hp he
      go_simp
      exact hK _ _ (Out.refl _ _ _) (getD_put_self ac 5 _ (by show _ < ac.tmps.size; omega)) ⟨fun _ => hBu, fun h => absurd h (by rw [getD_set_ne true (by decide), h17]; decide)⟩
    · obtain rfl := Option.some.inj ho
      have h17 : L.getD 17 true = false := hcl.not (i := 17) (j := 1) (by kernel_rfl) hLi
      have hBu := hJ.1 h17
      have q1 : ac.tmps.getD 1 undef = .pointer (some ⟨B, 0, none⟩) := hf.at_ 1 (by kernel_rfl)
      clear hp he
      go_simp
      exact hK _ _ (Out.refl _ _ _) (getD_put_self ac 6 _ (by show _ < ac.tmps.size; omega)) ⟨fun _ => hBu, fun h => absurd h (by rw [getD_set_ne true (by decide), h17]; decide)⟩
    · obtain rfl := Option.some.inj ho
      have h17 : L.getD 17 true = false := hcl.not (i := 17) (j := 2) (by kernel_rfl) hLi
      have hBu := hJ.1 h17
      have q6 : ac.tmps.getD 6 undef = .pointer (some ⟨B, 0, none⟩) := hp 1 _ rfl (he _ (Array.mem_of_getElem? (i := 0) rfl) (by kernel_rfl))
      clear hp he
      go_simp
      exact hK _ _ (Out.refl _ _ _) (getD_put_self ac 7 _ (by show _ < ac.tmps.size; omega)) ⟨fun _ => hBu, fun h => absurd h (by rw [getD_set_ne true (by decide), h17]; decide)⟩
    · obtain rfl := Option.some.inj ho
      have h17 : L.getD 17 true = false := hcl.not (i := 17) (j := 3) (by kernel_rfl) hLi
      have hBu := hJ.1 h17
      have q7 : ac.tmps.getD 7 undef = .pointer (some ⟨B, 0, none⟩) := hp 2 _ rfl (he _ (Array.mem_of_getElem? (i := 0) rfl) (by kernel_rfl))
      clear hp he
      go_simp
      exact hK _ _ (Out.refl _ _ _) (getD_put_self ac 8 _ (by show _ < ac.tmps.size; omega)) ⟨fun _ => hBu, fun h => absurd h (by rw [getD_set_ne true (by decide), h17]; decide)⟩
    · obtain rfl := Option.some.inj ho
      have h17 : L.getD 17 true = false := hcl.not (i := 17) (j := 4) (by kernel_rfl) hLi
      have hBu := hJ.1 h17
      have q8 : ac.tmps.getD 8 undef = .pointer (some ⟨B, 0, none⟩) := hp 3 _ rfl (he _ (Array.mem_of_getElem? (i := 0) rfl) (by kernel_rfl))
      clear hp he
      obtain ⟨c0, c1, c2, c3, _⟩ := H4.out.at_ hBu
      go_simp
      exact hK _ _ (Out.refl _ _ _) (getD_put_self ac 9 _ (by show _ < ac.tmps.size; omega)) ⟨fun _ => hBu, fun h => absurd h (by rw [getD_set_ne true (by decide), h17]; decide)⟩
    · obtain rfl := Option.some.inj ho
      have h17 : L.getD 17 true = false := hcl.not (i := 17) (j := 5) (by kernel_rfl) hLi
      have hBu := hJ.1 h17
      have q2 : ac.tmps.getD 2 undef = .pointer (some ⟨w.heap.size, 0, none⟩) := hf.at_ 2 (by kernel_rfl)
      clear hp he
      go_simp
      exact hK _ _ (Out.refl _ _ _) (getD_put_self ac 10 _ (by show _ < ac.tmps.size; omega)) ⟨fun _ => hBu, fun h => absurd h (by rw [getD_set_ne true (by decide), h17]; decide)⟩
    · obtain rfl := Option.some.inj ho
      have h17 : L.getD 17 true = false := hcl.not (i := 17) (j := 6) (by kernel_rfl) hLi
      have hBu := hJ.1 h17
      have q10 : ac.tmps.getD 10 undef = .pointer (some ⟨w.heap.size, 1, none⟩) := hp 5 _ rfl (he _ (Array.mem_of_getElem? (i := 0) rfl) (by kernel_rfl))
      clear hp he
      obtain ⟨_, k1, k2, _, _, _, _, _, _, _, _⟩ := HT.out.at_ (hR.block w.heap.size (by omega) (by omega))
      go_simp
      exact hK _ _ (Out.refl _ _ _) (getD_put_self ac 11 _ (by show _ < ac.tmps.size; omega)) ⟨fun _ => hBu, fun h => absurd h (by rw [getD_set_ne true (by decide), h17]; decide)⟩
    · obtain rfl := Option.some.inj ho
      have h17 : L.getD 17 true = false := hcl.not (i := 17) (j := 7) (by kernel_rfl) hLi
      have hBu := hJ.1 h17
      have q2 : ac.tmps.getD 2 undef = .pointer (some ⟨w.heap.size, 0, none⟩) := hf.at_ 2 (by kernel_rfl)
      clear hp he
      go_simp
      exact hK _ _ (Out.refl _ _ _) (getD_put_self ac 12 _ (by show _ < ac.tmps.size; omega)) ⟨fun _ => hBu, fun h => absurd h (by rw [getD_set_ne true (by decide), h17]; decide)⟩
    · obtain rfl := Option.some.inj ho
      have h17 : L.getD 17 true = false := hcl.not (i := 17) (j := 8) (by kernel_rfl) hLi
      have hBu := hJ.1 h17
      have q12 : ac.tmps.getD 12 undef = .pointer (some ⟨w.heap.size, 3, none⟩) := hp 7 _ rfl (he _ (Array.mem_of_getElem? (i := 0) rfl) (by kernel_rfl))
      clear hp he
      obtain ⟨_, _, _, k3, k4, k5, k6, k7, _, _, _⟩ := HT.out.at_ (hR.block w.heap.size (by omega) (by omega))
      go_simp
      exact hK _ _ (Out.refl _ _ _) (getD_put_self ac 13 _ (by show _ < ac.tmps.size; omega)) ⟨fun _ => hBu, fun h => absurd h (by rw [getD_set_ne true (by decide), h17]; decide)⟩
    · obtain rfl := Option.some.inj ho
      have h17 : L.getD 17 true = false := hcl.not (i := 17) (j := 9) (by kernel_rfl) hLi
      have hBu := hJ.1 h17
      have q1 : ac.tmps.getD 1 undef = .pointer (some ⟨B, 0, none⟩) := hf.at_ 1 (by kernel_rfl)
      clear hp he
      go_simp
      exact hK _ _ (Out.refl _ _ _) (getD_put_self ac 14 _ (by show _ < ac.tmps.size; omega)) ⟨fun _ => hBu, fun h => absurd h (by rw [getD_set_ne true (by decide), h17]; decide)⟩
    · obtain rfl := Option.some.inj ho
      have h17 : L.getD 17 true = false := hcl.not (i := 17) (j := 10) (by kernel_rfl) hLi
      have hBu := hJ.1 h17
      have q14 : ac.tmps.getD 14 undef = .pointer (some ⟨B, 0, none⟩) := hp 9 _ rfl (he _ (Array.mem_of_getElem? (i := 0) rfl) (by kernel_rfl))
      clear hp he
      go_simp
      exact hK _ _ (Out.refl _ _ _) (getD_put_self ac 15 _ (by show _ < ac.tmps.size; omega)) ⟨fun _ => hBu, fun h => absurd h (by rw [getD_set_ne true (by decide), h17]; decide)⟩
    · obtain rfl := Option.some.inj ho
      have h17 : L.getD 17 true = false := hcl.not (i := 17) (j := 11) (by kernel_rfl) hLi
      have hBu := hJ.1 h17
      have q15 : ac.tmps.getD 15 undef = .pointer (some ⟨B, 0, none⟩) := hp 10 _ rfl (he _ (Array.mem_of_getElem? (i := 0) rfl) (by kernel_rfl))
      clear hp he
      go_simp
      exact hK _ _ (Out.refl _ _ _) (getD_put_self ac 16 _ (by show _ < ac.tmps.size; omega)) ⟨fun _ => hBu, fun h => absurd h (by rw [getD_set_ne true (by decide), h17]; decide)⟩
    · obtain rfl := Option.some.inj ho
      have h17 : L.getD 17 true = false := hcl.not (i := 17) (j := 12) (by kernel_rfl) hLi
      have hBu := hJ.1 h17
      have q16 : ac.tmps.getD 16 undef = .pointer (some ⟨B, 0, none⟩) := hp 11 _ rfl (he _ (Array.mem_of_getElem? (i := 0) rfl) (by kernel_rfl))
      clear hp he
      obtain ⟨c0, c1, c2, c3, _⟩ := H4.out.at_ hBu
      go_simp
      exact hK _ _ (Out.refl _ _ _) (getD_put_self ac 17 _ (by show _ < ac.tmps.size; omega)) ⟨fun _ => hBu, fun h => absurd h (by rw [getD_set_ne true (by decide), h17]; decide)⟩
    · obtain rfl := Option.some.inj ho
      have h17 : L.getD 17 true = false := hcl.not (i := 17) (j := 13) (by kernel_rfl) hLi
      have hBu := hJ.1 h17
      have q13 : ac.tmps.getD 13 undef = .agg #[.int .i64 s.e.k, .int .i64 s.e.n, .int .i64 s.e.ak, .int .i64 s.e.at_, .slice ax s.e.kids.length cx] := hp 8 _ rfl (he _ (Array.mem_of_getElem? (i := 0) rfl) (by kernel_rfl))
      have q17 : ac.tmps.getD 17 undef = .agg #[.slice qa xa ya, .slice qb xb yb, .slice qc xc yc] := hp 12 _ rfl (he _ (Array.mem_of_getElem? (i := 1) rfl) (by kernel_rfl))
      clear hp he
      go_simp
      refine (iExprOf_any u lo' hi' lo hi _ _ s.e d ⟨_, rfl, hKRu hBu⟩ (hMOu hBu).mi (by omega) (by omega) hm).mono ?_; rw [hof]
      rintro e1 u' ⟨rfl, hbu⟩
      exact hK _ _ (out_of_below hbu _ _) (getD_put_self ac 18 _ (by show _ < ac.tmps.size; omega)) ⟨fun _ => (hbu.block B (by omega)).trans hBu, fun h => absurd h (by rw [getD_set_ne true (by decide), h17]; decide)⟩
    · obtain rfl := Option.some.inj ho
      have h17 : L.getD 17 true = false := hcl.not (i := 17) (j := 14) (by kernel_rfl) hLi
      have hBu := hJ.1 h17
      have q9 : ac.tmps.getD 9 undef = .agg #[.slice qa xa ya, .slice qb xb yb, .slice qc xc yc] := hp 4 _ rfl (he _ (Array.mem_of_getElem? (i := 0) rfl) (by kernel_rfl))
      have q11 : ac.tmps.getD 11 undef = .agg #[.int .i64 s.tk, .int .i64 s.ta] := hp 6 _ rfl (he _ (Array.mem_of_getElem? (i := 1) rfl) (by kernel_rfl))
      have q18 : ac.tmps.getD 18 undef = .int .i64 (evalD 6 d s.e) := hp 13 _ rfl (he _ (Array.mem_of_getElem? (i := 2) rfl) (by kernel_rfl))
      have hpt := iMemPut_any u (.agg #[.slice qa xa ya, .slice qb xb yb, .slice qc xc yc]) lo hi d s.tk s.ta (evalD 6 d s.e) (hMOu hBu).mi (by omega)
      rw [HPT.out] at hpt
      have ev : AddrD.val ⟨s.tk, s.ta⟩ = .agg #[.int .i64 s.tk, .int .i64 s.ta] := rfl
      rw [ev] at hpt
      clear ev
      clear hp he
      go_simp
      refine hpt.mono ?_
      rintro e1 u' ⟨m', rfl, hmo', hbu⟩
      exact hK _ _ (out_of_below hbu _ _) ⟨u.heap.size, u'.heap.size, hus, Nat.le_refl _, by show MO _ _ _ ((ac.put (some 19) m').tmps.getD 19 undef) _; rw [getD_put_self ac 19 _ (by show _ < ac.tmps.size; omega)]; exact hmo'⟩ ⟨fun _ => (hbu.block B (by omega)).trans hBu, fun h => absurd h (by rw [getD_set_ne true (by decide), h17]; decide)⟩
    · obtain rfl := Option.some.inj ho
      have h17 : L.getD 17 true = false := hcl.not (i := 17) (j := 16) (by kernel_rfl) (hcl.not (i := 16) (j := 15) (by kernel_rfl) hLi)
      have hBu := hJ.1 h17
      have q5 : ac.tmps.getD 5 undef = .pointer (some ⟨B, 0, none⟩) := hp 0 _ rfl (he _ (Array.mem_of_getElem? (i := 0) rfl) (by kernel_rfl))
      clear hp he
      go_simp
      exact hK _ _ (Out.refl _ _ _) (getD_put_self ac 20 _ (by show _ < ac.tmps.size; omega)) ⟨fun _ => hBu, fun h => absurd h (by rw [getD_set_ne true (by decide), h17]; decide)⟩
    · obtain rfl := Option.some.inj ho
      have h17 : L.getD 17 true = false := hcl.not (i := 17) (j := 16) (by kernel_rfl) hLi
      have hBu := hJ.1 h17
      have q20 : ac.tmps.getD 20 undef = .pointer (some ⟨B, 0, none⟩) := hp 15 _ rfl (he _ (Array.mem_of_getElem? (i := 0) rfl) (by kernel_rfl))
      clear hp he
      go_simp
      exact hK _ _ (Out.refl _ _ _) (getD_put_self ac 21 _ (by show _ < ac.tmps.size; omega)) ⟨fun _ => hBu, fun h => absurd h (by rw [getD_set_ne true (by decide), h17]; decide)⟩
    · obtain rfl := Option.some.inj ho
      have h14 : L.getD 14 true = true := he _ (Array.mem_of_getElem? (i := 1) rfl) (by kernel_rfl)
      have h16 : L.getD 16 true = true := he _ (Array.mem_of_getElem? (i := 0) rfl) (by kernel_rfl)
      obtain ⟨lo1, hi1, hl1, hh1, hmo1⟩ := hp 14 _ rfl h14
      have hmo1 : MO u lo1 hi1 (ac.tmps.getD 19 undef) (memSet d ⟨s.tk, s.ta⟩ (evalD 6 d s.e)) := hmo1
      obtain ⟨pa, la, ca, pb, lb, cb, pc, lc, cc, m19⟩ := hmo1.mi.aggs
      rw [m19] at hmo1
      have m21 : ac.tmps.getD 21 undef = .pointer (some ⟨B, 0, none⟩) := hp 16 _ rfl h16
      have hBu := hJ.1 hLi
      have h4 := H4.out.at_ hBu
      obtain ⟨u2, hu2, T2, N2, S2, B2⟩ := four_store h4 (.slice pa la ca) (.slice pb lb cb) (.slice pc lc cc)
      have HU2 : Hid (_ = u2) := hu2
      have hKK := hK undef u2 ⟨B2.os, B2.tape, B2.output, by omega, fun k h1 h2 => N2 k (by omega)⟩ trivial ⟨fun h => absurd h (by rw [getD_set_self' (by rw [hLs]; decide)]; decide), fun _ => ⟨_, _, _, lo1, hi1, hmo1.kept fun k h1 h2 => N2 k (by omega), by omega, by omega, T2⟩⟩
      obtain ⟨c0, c1, c2, c3, cf⟩ := id h4
      have cf0 := cf 0
      have cf1 := cf 1
      have cf2 := cf 2
      have HKK : Hid _ := hKK
      clear hp he hJ hmo1 h4 hu2 T2 N2 B2 cf hK hKK
      go_simp
      try rw [HU2.out]
      exact HKK.out
    · exact absurd ho (by simp)
  · intro L ac u hf hR0 hp hJ
    have hR : Out B (B + 1) u0 u := (out_of_below (Below.drew (Below.refl _ _)) _ _).trans hR0
    have hus := hR.size
    have HO : Hid (RunV A u B (memSet d ⟨s.tk, s.ta⟩ (evalD 6 d s.e)) f ∧ Out B (B + 1) w u) := ⟨hJ.2 (hp 17 _ rfl).1, (out_of_below G0 _ _).trans hR⟩
    clear hp hJ hR0 hR H4 HT HX
    obtain ⟨fq, ea, hfv⟩ := act_lit ac 22 hf.size
    have md : ac.defers = [] := hf.defers
    rw [md] at ea
    have m0 := hf.at_ 0 (by kernel_rfl)
    have m1 := hf.at_ 1 (by kernel_rfl)
    have m2 := hf.at_ 2 (by kernel_rfl)
    have m3 := hf.at_ 3 (by kernel_rfl)
    have m4 := hf.at_ 4 (by kernel_rfl)
    rw [← hfv] at m0 m1 m2 m3 m4
    simp only [Array.getD_eq_getD_getElem?, List.getElem?_toArray, List.getElem?_cons_succ, List.getElem?_cons_zero, Option.getD_some] at m0 m1 m2 m3 m4
    simp only [List.range, List.range.loop, List.map_cons, List.map_nil, m0, m1, m2, m3, m4] at ea
    subst ea
    clear m0 m1 m2 m3 m4 hfv md hf
    go_wp2
    go_ret
    exact ⟨rfl, HO.out.1, HO.out.2⟩
end Go.Proofs.YtdlcdllmhacaaaaGreatDoor
