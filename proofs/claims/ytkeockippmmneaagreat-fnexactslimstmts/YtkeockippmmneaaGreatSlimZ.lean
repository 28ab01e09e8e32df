/-
  Chapter 10: slimList. (Written by our generator gen_slimz.py.)
-/
import Derived.Test.YtkeockippmmneaaGreatSlimY
import Derived.Test.YtkeockippmmneaaGreatSlimQ
import Derived.Test.YtkeockippmmneaaGreatDag2
namespace Go.Proofs.YtkeockippmmneaaGreat
open Go.ChangeShapes Go.WideShapes Go.ChangeAt Go.RowKit
set_option linter.unusedVariables false
set_option linter.unusedSimpArgs false
set_option maxRecDepth 100000

theorem grownBy_blockI {w w' : World} {row : Option Nat} (h : w.grownBy w' row) {k : Nat} (hk : k < w.heap.size) (hne : ∀ g, row = some g → k ≠ g) : w'.heap[k]? = w.heap[k]? :=
  h.block k hk fun e => hne k e.symm rfl
theorem TenW.setE2 {u : World} {V : Nat} {x0 x1 x2 x3 x4 x5 x6 x7 x8 x9 : Value} (h : TenW u V x0 x1 x2 x3 x4 x5 x6 x7 x8 x9) (v0 v1 v2 v3 v4 : Value) :
    ∃ u1, ((((u.setCell ⟨V, 3, none⟩ v0).setCell ⟨V, 4, none⟩ v1).setCell ⟨V, 5, none⟩ v2).setCell ⟨V, 6, none⟩ v3).setCell ⟨V, 7, none⟩ v4 = u1 ∧ TenW u1 V x0 x1 x2 v0 v1 v2 v3 v4 x8 x9 ∧ (∀ k, k ≠ V → u1.heap[k]? = u.heap[k]?) ∧ u1.heap.size = u.heap.size ∧ Below V u u1 :=
  ⟨_, rfl, ((((h.set3 _).set4 _).set5 _).set6 _).set7 _, fun k hk => by rw [Below.heap_setCell _ _ _ _ hk, Below.heap_setCell _ _ _ _ hk, Below.heap_setCell _ _ _ _ hk, Below.heap_setCell _ _ _ _ hk, Below.heap_setCell _ _ _ _ hk], by simp,
    (((((Below.refl _ _).setCell (p := ⟨V, 3, none⟩) (Nat.le_refl _) _).setCell (p := ⟨V, 4, none⟩) (Nat.le_refl _) _).setCell (p := ⟨V, 5, none⟩) (Nat.le_refl _) _).setCell (p := ⟨V, 6, none⟩) (Nat.le_refl _) _).setCell (p := ⟨V, 7, none⟩) (Nat.le_refl _) _⟩

def pick (b : Bool) (x y : Value) : Value := if b then x else y

/-- A statement's variable while its region draws: which parts are made, which are stored, and where they lie. -/
structure SlJ (wr : World) (B : Nat) (s : StmtD) (f : ExprD) (T E : List StmtD) (x y z : Value) (xa ya za : Option Go.Addr) (xc yc zc a0 a1 b0 b1 c0 c1 : Nat) (L : Array Bool) (a : Act) (u : World) : Prop where
  g : Below wr.heap.size wr u
  sz : B + 1 ≤ u.heap.size
  ten : TenW u B (.int .i64 s.k) (.int .i64 s.tk) (.int .i64 s.ta) (pick (L.getD 10 true) (.int .i64 f.k) (.int .i64 s.e.k)) (pick (L.getD 10 true) (.int .i64 f.n) (.int .i64 s.e.n)) (pick (L.getD 10 true) (.int .i64 f.ak) (.int .i64 s.e.ak)) (pick (L.getD 10 true) (.int .i64 f.at_) (.int .i64 s.e.at_)) (pick (L.getD 10 true) (.slice xa f.kids.length xc) x) (pick (L.getD 12 true) (.slice ya T.length yc) y) (pick (L.getD 14 true) (.slice za E.length zc) z)
  c2 : L.getD 2 true = true → a.tmps.getD 14 undef = .agg #[.int .i64 f.k, .int .i64 f.n, .int .i64 f.ak, .int .i64 f.at_, .slice xa f.kids.length xc] ∧ B + 1 ≤ a0 ∧ a0 ≤ a1 ∧ a1 ≤ u.heap.size ∧ KO u a0 a1 (.slice xa f.kids.length xc) f.kids
  c5 : L.getD 5 true = true → a.tmps.getD 17 undef = .slice ya T.length yc ∧ a1 ≤ b0 ∧ b0 ≤ b1 ∧ b1 ≤ u.heap.size ∧ SO u b0 b1 (.slice ya T.length yc) T
  c8 : L.getD 8 true = true → a.tmps.getD 20 undef = .slice za E.length zc ∧ b1 ≤ c0 ∧ c0 ≤ c1 ∧ c1 ≤ u.heap.size ∧ SO u c0 c1 (.slice za E.length zc) E

section
variable {wr : World} {B : Nat} {s : StmtD} {f : ExprD} {T E : List StmtD} {x y z : Value} {xa ya za : Option Go.Addr} {xc yc zc a0 a1 b0 b1 c0 c1 : Nat} {L : Array Bool} {a : Act} {u : World}

theorem SlJ.same (h : SlJ wr B s f T E x y z xa ya za xc yc zc a0 a1 b0 b1 c0 c1 L a u) {i : Nat} (h2 : i ≠ 2) (h5 : i ≠ 5) (h8 : i ≠ 8) (h10 : i ≠ 10) (h12 : i ≠ 12) (h14 : i ≠ 14) {t : Nat} (t14 : t ≠ 14) (t17 : t ≠ 17) (t20 : t ≠ 20) (v : Value) :
    SlJ wr B s f T E x y z xa ya za xc yc zc a0 a1 b0 b1 c0 c1 (L.setIfInBounds i true) (a.put (some t) v) u :=
  ⟨h.g, h.sz, by rw [getD_set_ne true h10, getD_set_ne true h12, getD_set_ne true h14]; exact h.ten,
   fun hl => by rw [getD_set_ne true h2] at hl; rw [getD_put_ne a t 14 v t14]; exact h.c2 hl,
   fun hl => by rw [getD_set_ne true h5] at hl; rw [getD_put_ne a t 17 v t17]; exact h.c5 hl,
   fun hl => by rw [getD_set_ne true h8] at hl; rw [getD_put_ne a t 20 v t20]; exact h.c8 hl⟩

theorem SlJ.call2 (h : SlJ wr B s f T E x y z xa ya za xc yc zc a0 a1 b0 b1 c0 c1 L a u) (hB : B = wr.heap.size) (n5 : L.getD 5 true = false) (n8 : L.getD 8 true = false) (n10 : L.getD 10 true = false) {u' : World} {xa' : Option Go.Addr} {xc' : Nat} (g : Below u.heap.size u u') (hs : 14 < a.tmps.size)
    (hk : KO u' u.heap.size u'.heap.size (.slice xa' f.kids.length xc') f.kids) :
    SlJ wr B s f T E x y z xa' ya za xc' yc zc u.heap.size u'.heap.size b0 b1 c0 c1 (L.setIfInBounds 2 true) (a.put (some 14) (.agg #[.int .i64 f.k, .int .i64 f.n, .int .i64 f.ak, .int .i64 f.at_, .slice xa' f.kids.length xc'])) u' := by
  have hz := h.sz
  have hg := g.size
  have hw := h.g.size
  refine ⟨h.g.trans (g.mono (by omega)), by omega, ?_, fun _ => ⟨getD_put_self a 14 _ hs, h.sz, hg, Nat.le_refl _, hk⟩, fun hl => ?_, fun hl => ?_⟩
  · have ht := h.ten.under g (by omega)
    rw [getD_set_ne true (by decide), getD_set_ne true (by decide), getD_set_ne true (by decide)]
    rw [n10] at ht ⊢
    exact ht
  · rw [getD_set_ne true (by decide), n5] at hl; cases hl
  · rw [getD_set_ne true (by decide), n8] at hl; cases hl

theorem SlJ.call5 (h : SlJ wr B s f T E x y z xa ya za xc yc zc a0 a1 b0 b1 c0 c1 L a u) (hB : B = wr.heap.size) (y2 : L.getD 2 true = true) (n8 : L.getD 8 true = false) (n12 : L.getD 12 true = false) {u' : World} {ya' : Option Go.Addr} {yc' : Nat} (g : Below u.heap.size u u') (hs : 17 < a.tmps.size)
    (hk : SO u' u.heap.size u'.heap.size (.slice ya' T.length yc') T) :
    SlJ wr B s f T E x y z xa ya' za xc yc' zc a0 a1 u.heap.size u'.heap.size c0 c1 (L.setIfInBounds 5 true) (a.put (some 17) (.slice ya' T.length yc')) u' := by
  have hz := h.sz
  have hg := g.size
  have hw := h.g.size
  obtain ⟨k1, k2, k3, k4, k5⟩ := h.c2 y2
  refine ⟨h.g.trans (g.mono (by omega)), by omega, ?_, fun _ => ⟨by rw [getD_put_ne a 17 14 _ (by decide)]; exact k1, k2, k3, by omega, k5.under g k4⟩, fun _ => ⟨getD_put_self a 17 _ hs, k4, hg, Nat.le_refl _, hk⟩, fun hl => ?_⟩
  · have ht := h.ten.under g (by omega)
    rw [getD_set_ne true (by decide), getD_set_ne true (by decide), getD_set_ne true (by decide)]
    rw [n12] at ht ⊢
    exact ht
  · rw [getD_set_ne true (by decide), n8] at hl; cases hl

theorem SlJ.call8 (h : SlJ wr B s f T E x y z xa ya za xc yc zc a0 a1 b0 b1 c0 c1 L a u) (hB : B = wr.heap.size) (y2 : L.getD 2 true = true) (y5 : L.getD 5 true = true) (n14 : L.getD 14 true = false) {u' : World} {za' : Option Go.Addr} {zc' : Nat} (g : Below u.heap.size u u') (hs : 20 < a.tmps.size)
    (hk : SO u' u.heap.size u'.heap.size (.slice za' E.length zc') E) :
    SlJ wr B s f T E x y z xa ya za' xc yc zc' a0 a1 b0 b1 u.heap.size u'.heap.size (L.setIfInBounds 8 true) (a.put (some 20) (.slice za' E.length zc')) u' := by
  have hz := h.sz
  have hg := g.size
  have hw := h.g.size
  obtain ⟨k1, k2, k3, k4, k5⟩ := h.c2 y2
  obtain ⟨l1, l2, l3, l4, l5⟩ := h.c5 y5
  refine ⟨h.g.trans (g.mono (by omega)), by omega, ?_, fun _ => ⟨by rw [getD_put_ne a 20 14 _ (by decide)]; exact k1, k2, k3, by omega, k5.under g k4⟩, fun _ => ⟨by rw [getD_put_ne a 20 17 _ (by decide)]; exact l1, l2, l3, by omega, l5.under g l4⟩, fun _ => ⟨getD_put_self a 20 _ hs, l4, hg, Nat.le_refl _, hk⟩⟩
  have ht := h.ten.under g (by omega)
  rw [getD_set_ne true (by decide), getD_set_ne true (by decide), getD_set_ne true (by decide)]
  rw [n14] at ht ⊢
  exact ht

/-- A store into the variable. -/
theorem SlJ.laid (h : SlJ wr B s f T E x y z xa ya za xc yc zc a0 a1 b0 b1 c0 c1 L a u) {u' : World} {L' : Array Bool} (hB : B = wr.heap.size) (hb : Below B u u') (hn : ∀ k, k ≠ B → u'.heap[k]? = u.heap[k]?) (hs : u'.heap.size = u.heap.size)
    (e2 : L'.getD 2 true = L.getD 2 true) (e5 : L'.getD 5 true = L.getD 5 true) (e8 : L'.getD 8 true = L.getD 8 true) (y2 : L.getD 2 true = true) (y5 : L.getD 5 true = true)
    (ht : TenW u' B (.int .i64 s.k) (.int .i64 s.tk) (.int .i64 s.ta) (pick (L'.getD 10 true) (.int .i64 f.k) (.int .i64 s.e.k)) (pick (L'.getD 10 true) (.int .i64 f.n) (.int .i64 s.e.n)) (pick (L'.getD 10 true) (.int .i64 f.ak) (.int .i64 s.e.ak)) (pick (L'.getD 10 true) (.int .i64 f.at_) (.int .i64 s.e.at_)) (pick (L'.getD 10 true) (.slice xa f.kids.length xc) x) (pick (L'.getD 12 true) (.slice ya T.length yc) y) (pick (L'.getD 14 true) (.slice za E.length zc) z)) :
    SlJ wr B s f T E x y z xa ya za xc yc zc a0 a1 b0 b1 c0 c1 L' a u' := by
  obtain ⟨k1, k2, k3, k4, k5⟩ := h.c2 y2
  obtain ⟨l1, l2, l3, l4, l5⟩ := h.c5 y5
  refine ⟨h.g.trans (hB ▸ hb), by rw [hs]; exact h.sz, ht, fun _ => ⟨k1, k2, k3, by omega, k5.kept fun k q1 q2 => hn k (by omega)⟩, fun _ => ⟨l1, l2, l3, by omega, l5.kept fun k q1 q2 => hn k (by omega)⟩, fun hl => ?_⟩
  rw [e8] at hl
  obtain ⟨m1, m2, m3, m4, m5⟩ := h.c8 hl
  exact ⟨m1, m2, m3, by omega, m5.kept fun k q1 q2 => hn k (by omega)⟩
end

/-- What a statement comes to, as shells. -/
theorem SlR.gr {w u : World} {q : StmtD} {ax ay az : Option Go.Addr} {cx cy cz a0 a1 b0 b1 c0 c1 lo : Nat} {v' : Value} (h : SlR w u q (.slice ax q.e.kids.length cx) (.slice ay q.th.length cy) (.slice az q.el.length cz) v') (hk : KO u a0 a1 (.slice ax q.e.kids.length cx) q.e.kids) (ht : SO u b0 b1 (.slice ay q.th.length cy) q.th) (he : SO u c0 c1 (.slice az q.el.length cz) q.el)
    (h1 : lo ≤ a0 ∧ a0 ≤ a1 ∧ a1 ≤ b0 ∧ b0 ≤ b1 ∧ b1 ≤ c0 ∧ c0 ≤ c1 ∧ c1 ≤ u.heap.size) :
    ∃ ps rp g0 g1 ad cap, ps.map ShellT.s = shortS q ∧ v' = .slice ad ps.length cap ∧ GR shellTE u g0 g1 v' ps ∧ TK u lo u.heap.size ps rp ∧ g1 ≤ u.heap.size ∧ ps.length ≤ q.th.length + q.el.length + 1 := by
  rcases h with ⟨e, rfl⟩ | ⟨e, P, hP1, hP2, rfl, hV⟩ | ⟨e, rfl⟩ | ⟨e, rfl⟩
  · exact ⟨[], fun _ => ⟨0, 0, 0, 0, 0, 0, 0, 0⟩, 0, 0, none, 0, e.symm, rfl, ⟨none, 0, rfl, Nat.zero_le _, Nat.zero_le _, .inl rfl⟩, TK.nil _ _ _ _, Nat.zero_le _, Nat.zero_le _⟩
  · exact ⟨[⟨q, ax, cx, ay, cy, az, cz⟩], fun _ => ⟨a0, c1, a0, a1, b0, b1, c0, c1⟩, P, P + 1, _, 1, e.symm, rfl, gr_one (q := ⟨q, ax, cx, ay, cy, az, cz⟩) hV,
      TK.one (q := ⟨q, ax, cx, ay, cy, az, cz⟩) (r := ⟨a0, c1, a0, a1, b0, b1, c0, c1⟩) hk ht he ⟨by show lo ≤ a0; omega, by show c1 ≤ u.heap.size; omega, ⟨by show a0 ≤ a0; omega, by show a1 ≤ c1; omega⟩, ⟨by show a0 ≤ b0; omega, by show b1 ≤ c1; omega⟩, ⟨by show a0 ≤ c0; omega, by show c1 ≤ c1; omega⟩, .inl (by show a1 ≤ b0; omega), .inl (by show a1 ≤ c0; omega), .inl (by show b1 ≤ c0; omega)⟩, by omega, by simp⟩
  · obtain ⟨ps, rp, hps, GP, TP⟩ := ht.shells
    have hl : ps.length = q.th.length := by rw [← hps, List.length_map]
    exact ⟨ps, rp, b0, b1, ay, cy, by rw [hps, e], by rw [hl], GP, TP.wide (by omega) (by omega), by omega, by omega⟩
  · obtain ⟨ps, rp, hps, GP, TP⟩ := he.shells
    have hl : ps.length = q.el.length := by rw [← hps, List.length_map]
    exact ⟨ps, rp, c0, c1, az, cz, by rw [hps, e], by rw [hl], GP, TP.wide (by omega) (by omega), by omega, by omega⟩

theorem shortL_len (s : StmtD) : (shortS s).length ≤ s.th.length + s.el.length + 1 := by
  unfold shortS
  repeat' split
  all_goals first | omega | (simp; done) | (simp; omega)

theorem slimTL_len : ∀ (d : Nat) (l : List StmtD), (slimTD d l).length ≤ cntL l
  | 0, l => by
    rw [slimTD]
    induction l with
    | nil => simp
    | cons s l ih => rw [List.length_cons, cntL, cntS_eq]; omega
  | d + 1, l => by
    rw [slimTD_succ]
    induction l with
    | nil => simp
    | cons s l ih =>
      rw [List.flatMap_cons, List.length_append, cntL, cntS_eq]
      have h1 := shortL_len (withS s (slimD 6 s.e) (slimTD d s.th) (slimTD d s.el))
      have h2 : (withS s (slimD 6 s.e) (slimTD d s.th) (slimTD d s.el)).th.length ≤ cntL s.th := slimTL_len d s.th
      have h3 : (withS s (slimD 6 s.e) (slimTD d s.th) (slimTD d s.el)).el.length ≤ cntL s.el := slimTL_len d s.el
      have h4 : (slimS1 d s).length ≤ cntL s.th + cntL s.el + 1 := by unfold slimS1; omega
      omega

theorem slimTL_nil (d : Nat) : slimTD d [] = [] := by
  cases d with
  | zero => rw [slimTD]
  | succ d => rw [slimTD_succ]; rfl

theorem m_slim_set (v : Value) : ∀ w : World, (method 256 82 v "loop.example/stopgate/impl.slim").run Tryz.prog w = .ok (97, v) w := fun _ => by kernel_rfl
theorem m_slim_if (v : Value) : ∀ w : World, (method 256 83 v "loop.example/stopgate/impl.slim").run Tryz.prog w = .ok (105, v) w := fun _ => by kernel_rfl
theorem m_slim_while (v : Value) : ∀ w : World, (method 256 84 v "loop.example/stopgate/impl.slim").run Tryz.prog w = .ok (110, v) w := fun _ => by kernel_rfl
theorem calls_set_slim (args : Array Value) (w : World) : (callFunc 97 args).run Tryz.prog w = .ok (.enter 97 args) w := by kernel_rfl
theorem calls_if_slim (args : Array Value) (w : World) : (callFunc 105 args).run Tryz.prog w = .ok (.enter 105 args) w := by kernel_rfl
theorem calls_while_slim (args : Array Value) (w : World) : (callFunc 110 args).run Tryz.prog w = .ok (.enter 110 args) w := by kernel_rfl

/-- What slimList answers, of a list not deeper than d. -/
def LtI (d : Nat) : Prop := ∀ (w : World) (lo hi : Nat) (v : Value) (ss : List StmtD), sizeL ss ≤ 1048576 → SR w lo hi v ss → hi ≤ w.heap.size → formT d ss = true →
  Calls Tryz.prog 17 #[v] w fun en w' => ∃ v', en = .returned v' ∧ SO w' w.heap.size w'.heap.size v' (slimTD d ss) ∧ Below w.heap.size w w'

set_option maxHeartbeats 32000000 in
theorem ltI_step {d0 : Nat} (H : ∀ d, d0 = d + 1 → LtI d) : LtI d0 := by
  intro w lo hi v ss hbig h hhi hform
  obtain ⟨ad, cap, rfl, hc1, hc2⟩ := h.shape
  have hmx : ss.length ≤ 9223372036854775807 := by unfold maxLen at hc2; omega
  have hll := length_le_sizeL ss
  have hcn := cnt_le ss
  have HK : Hid (SR w lo hi (.slice ad ss.length cap) ss) := h
  have HM : Hid (sizeL ss ≤ 1048576 ∧ formT d0 ss = true ∧ cntL ss ≤ 1048576) := ⟨hbig, hform, by omega⟩
  have hl20 : ss.length ≤ 1048576 := by omega
  clear h hc1 hc2 hbig hll hform hcn
  have R0 : RowG shellTE 44 w w.heap.size (.slice none 0 0) ([] : List ShellT) := World.ownsRow_nil _ _ _ _
  have HI : Hid (RowK w w.heap.size (.slice none 0 0) [] (fun _ => ⟨0, 0, 0, 0, 0, 0, 0, 0⟩)) := ⟨R0, TK.nil _ _ _ _, fun g _ i hi => by simp at hi⟩
  clear R0
  go_enter Tryz.func17, Tryz.ntmps17
  go_wp2_with fail
  go_loopw [3, 8] (fun ov iv wr => ∃ (j : Nat) (qs : List ShellT) (r : Nat → Rg), j ≤ ss.length ∧ iv = .int .i64 j ∧ w.heap.size ≤ wr.heap.size ∧ Hid (qs.map ShellT.s = slimTD d0 (ss.take j) ∧ RowK wr w.heap.size ov qs r ∧ Below w.heap.size w wr)) (fun _ iv _ => ss.length - (intOf iv).toNat)
  case atStart => exact ⟨0, [], _, Nat.zero_le _, rfl, Nat.le_refl _, by rw [List.take_zero, slimTL_nil]; rfl, HI.out, Below.refl _ _⟩
  case round =>
    clear HI
    obtain ⟨j, qs, r, hj, rfl, hs, HR⟩ := hrel
    obtain ⟨va, vn, vc, hov⟩ : ∃ a n c, u3 = .slice a n c := by obtain ⟨a, c, h⟩ := HR.out.2.1.row.shape; exact ⟨a, _, c, h⟩
    subst hov
    by_cases hlt : j < ss.length
    · obtain ⟨s, hsj⟩ : ∃ s, ss[j]? = some s := ⟨ss[j], List.getElem?_eq_getElem hlt⟩
      obtain ⟨d, rfl⟩ : ∃ d, d0 = d + 1 := by
        cases d0 with
        | zero => have := formT_zero_nil HM.out.2.1; subst this; simp at hlt
        | succ d => exact ⟨d, rfl⟩
      have HD : Hid (LtI d) := H d rfl
      clear H
      have hlt' : (j : Int) < (ss.length : Int) := by omega
      obtain ⟨b, off, cap', x, y, z, hv, hb1, hb2, h5, hkx, hky, hkz⟩ := HK.out.at_ hsj
      simp only [Value.slice.injEq, true_and] at hv
      obtain ⟨rfl, rfl⟩ := hv
      have hkl := stmt_lt hsj
      have hmm := HM.out
      obtain ⟨ax, cx, rfl, _, _⟩ := hkx.shape
      obtain ⟨ay, cy, rfl, _, _⟩ := hky.shape
      obtain ⟨az, cz, rfl, _, _⟩ := hkz.shape
      have HX : Hid (KR w lo hi (.slice ax s.e.kids.length cx) s.e.kids ∧ SR w lo hi (.slice ay s.th.length cy) s.th ∧ SR w lo hi (.slice az s.el.length cz) s.el) := ⟨hkx, hky, hkz⟩
      obtain ⟨k1, k2, k3, k4⟩ := formT_know hmm.2.1 (List.mem_of_getElem? hsj)
      have k5 : formE 6 s.e = true := by unfold exprOk at k2; rw [Bool.and_eq_true] at k2; exact k2.1
      have HKN : Hid (fitB s = true ∧ formE 6 s.e = true ∧ formT d s.th = true ∧ formT d s.el = true) := ⟨k1, k5, k3, k4⟩
      have HQ : Hid (manyL s.e.kids ≤ 1048576 ∧ sizeL s.th ≤ 1048576 ∧ sizeL s.el ≤ 1048576) := ⟨by omega, by omega, by omega⟩
      have hct := cntL_take_succ hsj
      have hctl := cntL_take_le ss (j + 1)
      have hcs := cntS_eq s
      have hq1 := slimTL_len (d + 1) (ss.take j)
      have hq2 := slimTL_len d s.th
      have hq3 := slimTL_len d s.el
      have hqn : qs.length = (slimTD (d + 1) (ss.take j)).length := by rw [← HR.out.1, List.length_map]
      obtain ⟨f, hf⟩ : ∃ f, slimD 6 s.e = f := ⟨_, rfl⟩
      obtain ⟨T, hT⟩ : ∃ T, slimTD d s.th = T := ⟨_, rfl⟩
      obtain ⟨E, hE⟩ : ∃ E, slimTD d s.el = E := ⟨_, rfl⟩
      have HX1 : Hid (slimTD (d + 1) (ss.take (j + 1)) = slimTD (d + 1) (ss.take j) ++ shortS (withS s f T E)) := by
        show _ = _
        rw [slimTD_succ, slimTD_succ, slimTD_take hsj, ← hf, ← hT, ← hE]; rfl
      have HLN : Hid (qs.length ≤ 1048576 ∧ T.length ≤ 1048576 ∧ E.length ≤ 1048576) := by rw [hT] at hq2; rw [hE] at hq3; exact ⟨by omega, by omega, by omega⟩
      have HFE : Hid (slimD 6 s.e = f ∧ slimTD d s.th = T ∧ slimTD d s.el = E) := ⟨hf, hT, hE⟩
      obtain ⟨c0, c1, c2, c3, c4, c5, c6, c7, c8, c9⟩ := h5.kept (HR.out.2.2.block b (by omega))
      obtain ⟨B, hB⟩ : ∃ B, wr.heap.size = B := ⟨_, rfl⟩
      obtain ⟨u1, hu1, V1, g1, s1⟩ : ∃ u1, wr.alloc (.cells #[.int .i64 s.k, .int .i64 s.tk, .int .i64 s.ta, .int .i64 s.e.k, .int .i64 s.e.n, .int .i64 s.e.ak, .int .i64 s.e.at_, .slice ax s.e.kids.length cx, .slice ay s.th.length cy, .slice az s.el.length cz] 44) = u1 ∧ TenW u1 B (.int .i64 s.k) (.int .i64 s.tk) (.int .i64 s.ta) (.int .i64 s.e.k) (.int .i64 s.e.n) (.int .i64 s.e.ak) (.int .i64 s.e.at_) (.slice ax s.e.kids.length cx) (.slice ay s.th.length cy) (.slice az s.el.length cz) ∧ Below wr.heap.size wr u1 ∧ u1.heap.size = B + 1 := ⟨_, rfl, hB ▸ tenW_new _ _ _ _ _ _ _ _ _ _ _ _, (Below.refl _ _).alloc (Nat.le_refl _) _, by simp [hB]⟩
      have HRR := HR
      have hbs0 := HR.out.2.2.size
      have HTB : Hid ((∀ g, (Value.slice va vn vc).ownBlock = some g → g < B) ∧ ∀ i, i < qs.length → (r i).h ≤ B) := ⟨fun g hg => by have := (HR.out.2.1.row.lt g hg).2; omega, fun i hi => by have := (HR.out.2.1.tk.rng i hi).hi_; omega⟩
      have HV1 : Hid (TenW u1 B (.int .i64 s.k) (.int .i64 s.tk) (.int .i64 s.ta) (.int .i64 s.e.k) (.int .i64 s.e.n) (.int .i64 s.e.ak) (.int .i64 s.e.at_) (.slice ax s.e.kids.length cx) (.slice ay s.th.length cy) (.slice az s.el.length cz) ∧ Below wr.heap.size wr u1) := ⟨V1, g1⟩
      clear hsj hkx hky hkz hkl hmm h5 k1 k2 k3 k4 k5 hct hctl hcs hq1 hq2 hq3 hqn hf hT hE HR V1 g1
      go_wp2_with fail
      try rw [hB]
      try rw [hu1]
      clear hu1 c0 c1 c2 c3 c4 c5 c6 c7 c8 c9
      refine wp_region_dagC (R := fun _ _ => True) (Φ := fun i v u => match i with
          | 0 => v = .pointer (some ⟨B, 3, none⟩)
          | 1 => v = .agg #[.int .i64 s.e.k, .int .i64 s.e.n, .int .i64 s.e.ak, .int .i64 s.e.at_, .slice ax s.e.kids.length cx]
          | 3 => v = .pointer (some ⟨B, 8, none⟩)
          | 4 => v = .slice ay s.th.length cy
          | 6 => v = .pointer (some ⟨B, 9, none⟩)
          | 7 => v = .slice az s.el.length cz
          | 9 => v = .pointer (some ⟨B, 3, none⟩)
          | 11 => v = .pointer (some ⟨B, 8, none⟩)
          | 13 => v = .pointer (some ⟨B, 9, none⟩)
          | _ => True)
        (J := fun L a u => ∃ xa ya za xc yc zc a0 a1 b0 b1 c0 c1, SlJ wr B s f T E (.slice ax s.e.kids.length cx) (.slice ay s.th.length cy) (.slice az s.el.length cz) xa ya za xc yc zc a0 a1 b0 b1 c0 c1 L a u) (by kernel_rfl) (by kernel_rfl) (by kernel_rfl) trivial (fun _ _ _ _ _ => trivial) ?_ ⟨none, none, none, 0, 0, 0, 0, 0, 0, 0, 0, 0, HV1.out.2.trans (Below.drew (Below.refl _ _)), by show B + 1 ≤ u1.drew.heap.size; simp; omega, HV1.out.1.under (Below.drew (Below.refl u1.heap.size u1)) (by omega), fun h => by simp at h, fun h => by simp at h, fun h => by simp at h⟩ ?_ ?_
      · intro i v u u' hr
        match i with
        | 0 | 1 | 2 | 3 | 4 | 5 | 6 | 7 | 8 | 9 | 10 | 11 | 12 | 13 | 14 | _ + 15 => exact fun h => h
      · intro i o ho L a u hf hR0 hLs hLi hcl hp he hJ K' hK
        have hsz' : a.tmps.size = 31 := hf.size
        have hLs : L.size = 15 := hLs
        obtain ⟨xa, ya, za, xc, yc, zc, a0, a1, b0, b1, c0, c1, hJ⟩ := hJ
        have hus := hJ.g.size
        have huz := hJ.sz
        rcases i with _ | _ | _ | _ | _ | _ | _ | _ | _ | _ | _ | _ | _ | _ | _ | i
        · obtain rfl := Option.some.inj ho
          have q5 : a.tmps.getD 5 undef = .pointer (some ⟨B, 0, none⟩) := hf.at_ 5 (by kernel_rfl)
          clear hp he
          go_simp
          exact hK _ _ trivial (getD_put_self a 12 _ (by show _ < a.tmps.size; omega)) ⟨_, _, _, _, _, _, _, _, _, _, _, _, hJ.same (by decide) (by decide) (by decide) (by decide) (by decide) (by decide) (by decide) (by decide) (by decide) _⟩
        · obtain rfl := Option.some.inj ho
          have q12 : a.tmps.getD 12 undef = .pointer (some ⟨B, 3, none⟩) := hp 0 _ rfl (he _ (Array.mem_of_getElem? (i := 0) rfl) (by kernel_rfl))
          have n10 : L.getD 10 true = false := hcl.not (i := 10) (j := 1) (by kernel_rfl) hLi
          clear hp he
          have c3' : u.cell? ⟨B, 3, none⟩ = some (.int .i64 s.e.k) := by have := hJ.ten.c3; rw [n10] at this; exact this
          have c4' : u.cell? ⟨B, 4, none⟩ = some (.int .i64 s.e.n) := by have := hJ.ten.c4; rw [n10] at this; exact this
          have c5' : u.cell? ⟨B, 5, none⟩ = some (.int .i64 s.e.ak) := by have := hJ.ten.c5; rw [n10] at this; exact this
          have c6' : u.cell? ⟨B, 6, none⟩ = some (.int .i64 s.e.at_) := by have := hJ.ten.c6; rw [n10] at this; exact this
          have c7' : u.cell? ⟨B, 7, none⟩ = some (.slice ax s.e.kids.length cx) := by have := hJ.ten.c7; rw [n10] at this; exact this
          go_simp
          exact hK _ _ trivial (getD_put_self a 13 _ (by show _ < a.tmps.size; omega)) ⟨_, _, _, _, _, _, _, _, _, _, _, _, hJ.same (by decide) (by decide) (by decide) (by decide) (by decide) (by decide) (by decide) (by decide) (by decide) _⟩
        · obtain rfl := Option.some.inj ho
          have q13 : a.tmps.getD 13 undef = .agg #[.int .i64 s.e.k, .int .i64 s.e.n, .int .i64 s.e.ak, .int .i64 s.e.at_, .slice ax s.e.kids.length cx] := hp 1 _ rfl (he _ (Array.mem_of_getElem? (i := 0) rfl) (by kernel_rfl))
          have n5 : L.getD 5 true = false := hcl.not (i := 5) (j := 2) (by kernel_rfl) hLi
          have n8 : L.getD 8 true = false := hcl.not (i := 8) (j := 5) (by kernel_rfl) n5
          have n10 : L.getD 10 true = false := hcl.not (i := 10) (j := 2) (by kernel_rfl) hLi
          clear hp he
          have hc2 := slimS 6 u lo hi _ s.e (Nat.le_refl _) ⟨_, rfl, HX.out.1.under (HRR.out.2.2.trans (hJ.g.mono (by omega))) hhi⟩ (by omega) HKN.out.2.1
          rw [HFE.out.1] at hc2
          go_simp
          refine hc2.mono ?_
          rintro e1 u' ⟨v', rfl, hEO, g2⟩
          obtain ⟨xa2, xc2, rfl⟩ := hEO.form5
          obtain ⟨sx, hsx, KX⟩ := hEO
          simp only [Value.agg.injEq, Array.mk.injEq, List.cons.injEq, and_true, true_and] at hsx
          subst hsx
          exact hK _ _ trivial trivial ⟨_, _, _, _, _, _, _, _, _, _, _, _, hJ.call2 hB.symm n5 n8 n10 g2 (by omega) KX⟩
        · obtain rfl := Option.some.inj ho
          have q5 : a.tmps.getD 5 undef = .pointer (some ⟨B, 0, none⟩) := hf.at_ 5 (by kernel_rfl)
          clear hp he
          go_simp
          exact hK _ _ trivial (getD_put_self a 15 _ (by show _ < a.tmps.size; omega)) ⟨_, _, _, _, _, _, _, _, _, _, _, _, hJ.same (by decide) (by decide) (by decide) (by decide) (by decide) (by decide) (by decide) (by decide) (by decide) _⟩
        · obtain rfl := Option.some.inj ho
          have q15 : a.tmps.getD 15 undef = .pointer (some ⟨B, 8, none⟩) := hp 3 _ rfl (he _ (Array.mem_of_getElem? (i := 0) rfl) (by kernel_rfl))
          have n12 : L.getD 12 true = false := hcl.not (i := 12) (j := 4) (by kernel_rfl) hLi
          clear hp he
          have c8' : u.cell? ⟨B, 8, none⟩ = some (.slice ay s.th.length cy) := by have := hJ.ten.c8; rw [n12] at this; exact this
          go_simp
          exact hK _ _ trivial (getD_put_self a 16 _ (by show _ < a.tmps.size; omega)) ⟨_, _, _, _, _, _, _, _, _, _, _, _, hJ.same (by decide) (by decide) (by decide) (by decide) (by decide) (by decide) (by decide) (by decide) (by decide) _⟩
        · obtain rfl := Option.some.inj ho
          have q16 : a.tmps.getD 16 undef = .slice ay s.th.length cy := hp 4 _ rfl (he _ (Array.mem_of_getElem? (i := 0) rfl) (by kernel_rfl))
          have y2 : L.getD 2 true = true := he _ (Array.mem_of_getElem? (i := 1) rfl) (by kernel_rfl)
          have n8 : L.getD 8 true = false := hcl.not (i := 8) (j := 5) (by kernel_rfl) hLi
          have n12 : L.getD 12 true = false := hcl.not (i := 12) (j := 5) (by kernel_rfl) hLi
          clear hp he
          have hc := HD.out u lo hi _ s.th HQ.out.2.1 (HX.out.2.1.under (HRR.out.2.2.trans (hJ.g.mono (by omega))) hhi) (by omega) HKN.out.2.2.1
          rw [HFE.out.2.1] at hc
          go_simp
          refine hc.mono ?_
          rintro e1 u' ⟨v', rfl, hSO, g2⟩
          obtain ⟨ya2, yc2, rfl, _, _⟩ := hSO.sr.shape
          exact hK _ _ trivial trivial ⟨_, _, _, _, _, _, _, _, _, _, _, _, hJ.call5 hB.symm y2 n8 n12 g2 (by omega) hSO⟩
        · obtain rfl := Option.some.inj ho
          have q5 : a.tmps.getD 5 undef = .pointer (some ⟨B, 0, none⟩) := hf.at_ 5 (by kernel_rfl)
          clear hp he
          go_simp
          exact hK _ _ trivial (getD_put_self a 18 _ (by show _ < a.tmps.size; omega)) ⟨_, _, _, _, _, _, _, _, _, _, _, _, hJ.same (by decide) (by decide) (by decide) (by decide) (by decide) (by decide) (by decide) (by decide) (by decide) _⟩
        · obtain rfl := Option.some.inj ho
          have q18 : a.tmps.getD 18 undef = .pointer (some ⟨B, 9, none⟩) := hp 6 _ rfl (he _ (Array.mem_of_getElem? (i := 0) rfl) (by kernel_rfl))
          have n14 : L.getD 14 true = false := hcl.not (i := 14) (j := 7) (by kernel_rfl) hLi
          clear hp he
          have c9' : u.cell? ⟨B, 9, none⟩ = some (.slice az s.el.length cz) := by have := hJ.ten.c9; rw [n14] at this; exact this
          go_simp
          exact hK _ _ trivial (getD_put_self a 19 _ (by show _ < a.tmps.size; omega)) ⟨_, _, _, _, _, _, _, _, _, _, _, _, hJ.same (by decide) (by decide) (by decide) (by decide) (by decide) (by decide) (by decide) (by decide) (by decide) _⟩
        · obtain rfl := Option.some.inj ho
          have q19 : a.tmps.getD 19 undef = .slice az s.el.length cz := hp 7 _ rfl (he _ (Array.mem_of_getElem? (i := 0) rfl) (by kernel_rfl))
          have y2 : L.getD 2 true = true := hcl.wait (i := 5) (j := 2) (by kernel_rfl) (he _ (Array.mem_of_getElem? (i := 1) rfl) (by kernel_rfl))
          have y5 : L.getD 5 true = true := he _ (Array.mem_of_getElem? (i := 1) rfl) (by kernel_rfl)
          have n14 : L.getD 14 true = false := hcl.not (i := 14) (j := 8) (by kernel_rfl) hLi
          clear hp he
          have hc := HD.out u lo hi _ s.el HQ.out.2.2 (HX.out.2.2.under (HRR.out.2.2.trans (hJ.g.mono (by omega))) hhi) (by omega) HKN.out.2.2.2
          rw [HFE.out.2.2] at hc
          go_simp
          refine hc.mono ?_
          rintro e1 u' ⟨v', rfl, hSO, g2⟩
          obtain ⟨ya2, yc2, rfl, _, _⟩ := hSO.sr.shape
          exact hK _ _ trivial trivial ⟨_, _, _, _, _, _, _, _, _, _, _, _, hJ.call8 hB.symm y2 y5 n14 g2 (by omega) hSO⟩
        · obtain rfl := Option.some.inj ho
          have q5 : a.tmps.getD 5 undef = .pointer (some ⟨B, 0, none⟩) := hf.at_ 5 (by kernel_rfl)
          clear hp he
          go_simp
          exact hK _ _ trivial (getD_put_self a 21 _ (by show _ < a.tmps.size; omega)) ⟨_, _, _, _, _, _, _, _, _, _, _, _, hJ.same (by decide) (by decide) (by decide) (by decide) (by decide) (by decide) (by decide) (by decide) (by decide) _⟩
        · obtain rfl := Option.some.inj ho
          have q21 : a.tmps.getD 21 undef = .pointer (some ⟨B, 3, none⟩) := hp 9 _ rfl (he _ (Array.mem_of_getElem? (i := 0) rfl) (by kernel_rfl))
          have y8 : L.getD 8 true = true := he _ (Array.mem_of_getElem? (i := 2) rfl) (by kernel_rfl)
          have y5 : L.getD 5 true = true := hcl.wait (i := 8) (j := 5) (by kernel_rfl) y8
          have y2 : L.getD 2 true = true := hcl.wait (i := 5) (j := 2) (by kernel_rfl) y5
          have n10 := hLi
          clear hp he
          have q14 := (hJ.c2 y2).1
          have V := hJ.ten
          rw [n10] at V
          obtain ⟨u5, hu5, V5, N5, z5, b5⟩ := V.setE2 (.int .i64 f.k) (.int .i64 f.n) (.int .i64 f.ak) (.int .i64 f.at_) (.slice xa f.kids.length xc)
          have hJ5 := hJ.laid (L' := L.setIfInBounds 10 true) hB.symm b5 N5 z5 (getD_set_ne true (by decide)) (getD_set_ne true (by decide)) (getD_set_ne true (by decide)) y2 y5 (by
            rw [getD_set_self' (L := L) (i := 10) (by omega), getD_set_ne true (i := 10) (j := 12) (by decide), getD_set_ne true (i := 10) (j := 14) (by decide)]
            exact V5)
          obtain ⟨_, _, _, d3, d4, d5, d6, d7, _, _, df⟩ := id V
          have f3 := df 3
          have f4 := df 4
          have f5 := df 5
          have f6 := df 6
          have f7 := df 7
          simp only [pick, if_neg Bool.false_ne_true, Bool.false_eq_true, if_false] at d3 d4 d5 d6 d7
          have HU5 : Hid (_ = u5) := hu5
          clear hu5 V V5 N5 z5 b5 df hJ
          go_simp
          try rw [HU5.out]
          exact hK undef _ trivial trivial ⟨_, _, _, _, _, _, _, _, _, _, _, _, hJ5⟩
        · obtain rfl := Option.some.inj ho
          have q5 : a.tmps.getD 5 undef = .pointer (some ⟨B, 0, none⟩) := hf.at_ 5 (by kernel_rfl)
          clear hp he
          go_simp
          exact hK _ _ trivial (getD_put_self a 22 _ (by show _ < a.tmps.size; omega)) ⟨_, _, _, _, _, _, _, _, _, _, _, _, hJ.same (by decide) (by decide) (by decide) (by decide) (by decide) (by decide) (by decide) (by decide) (by decide) _⟩
        · obtain rfl := Option.some.inj ho
          have q22 : a.tmps.getD 22 undef = .pointer (some ⟨B, 8, none⟩) := hp 11 _ rfl (he _ (Array.mem_of_getElem? (i := 0) rfl) (by kernel_rfl))
          have y5 : L.getD 5 true = true := he _ (Array.mem_of_getElem? (i := 1) rfl) (by kernel_rfl)
          have y2 : L.getD 2 true = true := hcl.wait (i := 5) (j := 2) (by kernel_rfl) y5
          have n12 := hLi
          clear hp he
          have q17 := (hJ.c5 y5).1
          have V := hJ.ten
          rw [n12] at V
          obtain ⟨u5, hu5, V5, N5, z5, b5⟩ : ∃ u5, u.setCell ⟨B, 8, none⟩ (.slice ya T.length yc) = u5 ∧ TenW u5 B _ _ _ _ _ _ _ _ _ _ ∧ (∀ k, k ≠ B → u5.heap[k]? = u.heap[k]?) ∧ u5.heap.size = u.heap.size ∧ Below B u u5 := ⟨_, rfl, V.set8 _, fun k hk => Below.heap_setCell _ _ _ _ hk, by simp, (Below.refl _ _).setCell (p := ⟨B, 8, none⟩) (Nat.le_refl _) _⟩
          have hJ5 := hJ.laid (L' := L.setIfInBounds 12 true) hB.symm b5 N5 z5 (getD_set_ne true (by decide)) (getD_set_ne true (by decide)) (getD_set_ne true (by decide)) y2 y5 (by
            rw [getD_set_self' (L := L) (i := 12) (by omega), getD_set_ne true (i := 12) (j := 10) (by decide), getD_set_ne true (i := 12) (j := 14) (by decide)]
            exact V5)
          obtain ⟨_, _, _, _, _, _, _, _, d8, _, df⟩ := id V
          have f8 := df 8
          simp only [pick, if_neg Bool.false_ne_true, Bool.false_eq_true, if_false] at d8
          have HU5 : Hid (_ = u5) := hu5
          clear hu5 V V5 N5 z5 b5 df hJ
          go_simp
          try rw [HU5.out]
          exact hK undef _ trivial trivial ⟨_, _, _, _, _, _, _, _, _, _, _, _, hJ5⟩
        · obtain rfl := Option.some.inj ho
          have q5 : a.tmps.getD 5 undef = .pointer (some ⟨B, 0, none⟩) := hf.at_ 5 (by kernel_rfl)
          clear hp he
          go_simp
          exact hK _ _ trivial (getD_put_self a 23 _ (by show _ < a.tmps.size; omega)) ⟨_, _, _, _, _, _, _, _, _, _, _, _, hJ.same (by decide) (by decide) (by decide) (by decide) (by decide) (by decide) (by decide) (by decide) (by decide) _⟩
        · obtain rfl := Option.some.inj ho
          have q23 : a.tmps.getD 23 undef = .pointer (some ⟨B, 9, none⟩) := hp 13 _ rfl (he _ (Array.mem_of_getElem? (i := 0) rfl) (by kernel_rfl))
          have y8 : L.getD 8 true = true := he _ (Array.mem_of_getElem? (i := 1) rfl) (by kernel_rfl)
          have y5 : L.getD 5 true = true := hcl.wait (i := 8) (j := 5) (by kernel_rfl) y8
          have y2 : L.getD 2 true = true := hcl.wait (i := 5) (j := 2) (by kernel_rfl) y5
          have n14 := hLi
          clear hp he
          have q20 := (hJ.c8 y8).1
          have V := hJ.ten
          rw [n14] at V
          obtain ⟨u5, hu5, V5, N5, z5, b5⟩ : ∃ u5, u.setCell ⟨B, 9, none⟩ (.slice za E.length zc) = u5 ∧ TenW u5 B _ _ _ _ _ _ _ _ _ _ ∧ (∀ k, k ≠ B → u5.heap[k]? = u.heap[k]?) ∧ u5.heap.size = u.heap.size ∧ Below B u u5 := ⟨_, rfl, V.set9 _, fun k hk => Below.heap_setCell _ _ _ _ hk, by simp, (Below.refl _ _).setCell (p := ⟨B, 9, none⟩) (Nat.le_refl _) _⟩
          have hJ5 := hJ.laid (L' := L.setIfInBounds 14 true) hB.symm b5 N5 z5 (getD_set_ne true (by decide)) (getD_set_ne true (by decide)) (getD_set_ne true (by decide)) y2 y5 (by
            rw [getD_set_self' (L := L) (i := 14) (by omega), getD_set_ne true (i := 14) (j := 10) (by decide), getD_set_ne true (i := 14) (j := 12) (by decide)]
            exact V5)
          obtain ⟨_, _, _, _, _, _, _, _, _, d9, df⟩ := id V
          have f9 := df 9
          simp only [pick, if_neg Bool.false_ne_true, Bool.false_eq_true, if_false] at d9
          have HU5 : Hid (_ = u5) := hu5
          clear hu5 V V5 N5 z5 b5 df hJ
          go_simp
          try rw [HU5.out]
          exact hK undef _ trivial trivial ⟨_, _, _, _, _, _, _, _, _, _, _, _, hJ5⟩
        · exact absurd ho (by simp)
      · intro L a u hf hR0 hp hJ
        obtain ⟨xa, ya, za, xc, yc, zc, a0, a1, b0, b1, c0, c1, hJ⟩ := hJ
        have V := hJ.ten
        rw [(hp 10 _ rfl).1, (hp 12 _ rfl).1, (hp 14 _ rfl).1] at V
        have HZ : Hid (TenW u B (.int .i64 s.k) (.int .i64 s.tk) (.int .i64 s.ta) (.int .i64 f.k) (.int .i64 f.n) (.int .i64 f.ak) (.int .i64 f.at_) (.slice xa f.kids.length xc) (.slice ya T.length yc) (.slice za E.length zc) ∧ (B + 1 ≤ a0 ∧ a0 ≤ a1 ∧ a1 ≤ b0 ∧ b0 ≤ b1 ∧ b1 ≤ c0 ∧ c0 ≤ c1 ∧ c1 ≤ u.heap.size) ∧ KO u a0 a1 (.slice xa f.kids.length xc) f.kids ∧ SO u b0 b1 (.slice ya T.length yc) T ∧ SO u c0 c1 (.slice za E.length zc) E ∧ Below wr.heap.size wr u) := by
          obtain ⟨k1, k2, k3, k4, k5⟩ := hJ.c2 (hp 2 _ rfl).1
          obtain ⟨l1, l2, l3, l4, l5⟩ := hJ.c5 (hp 5 _ rfl).1
          obtain ⟨o1, o2, o3, o4, o5⟩ := hJ.c8 (hp 8 _ rfl).1
          exact ⟨V, ⟨k2, k3, l2, l3, o2, o3, o4⟩, k5, l5, o5, hJ.g⟩
        have huz := hJ.sz
        have m14 := (hJ.c2 (hp 2 _ rfl).1).1
        have m17 := (hJ.c5 (hp 5 _ rfl).1).1
        have m20 := (hJ.c8 (hp 8 _ rfl).1).1
        have m12 : a.tmps.getD 12 undef = .pointer (some ⟨B, 3, none⟩) := (hp 0 _ rfl).2
        have m13 : a.tmps.getD 13 undef = .agg #[.int .i64 s.e.k, .int .i64 s.e.n, .int .i64 s.e.ak, .int .i64 s.e.at_, .slice ax s.e.kids.length cx] := (hp 1 _ rfl).2
        have m15 : a.tmps.getD 15 undef = .pointer (some ⟨B, 8, none⟩) := (hp 3 _ rfl).2
        have m16 : a.tmps.getD 16 undef = .slice ay s.th.length cy := (hp 4 _ rfl).2
        have m18 : a.tmps.getD 18 undef = .pointer (some ⟨B, 9, none⟩) := (hp 6 _ rfl).2
        have m19 : a.tmps.getD 19 undef = .slice az s.el.length cz := (hp 7 _ rfl).2
        have m21 : a.tmps.getD 21 undef = .pointer (some ⟨B, 3, none⟩) := (hp 9 _ rfl).2
        have m22 : a.tmps.getD 22 undef = .pointer (some ⟨B, 8, none⟩) := (hp 11 _ rfl).2
        have m23 : a.tmps.getD 23 undef = .pointer (some ⟨B, 9, none⟩) := (hp 13 _ rfl).2
        clear V hJ hp hR0
        obtain ⟨fq, ea, hfv⟩ := act_lit a 31 hf.size
        have md : a.defers = [] := hf.defers
        rw [md] at ea
        have m0 := hf.at_ 0 (by kernel_rfl)
        have m1 := hf.at_ 1 (by kernel_rfl)
        have m2 := hf.at_ 2 (by kernel_rfl)
        have m3 := hf.at_ 3 (by kernel_rfl)
        have m4 := hf.at_ 4 (by kernel_rfl)
        have m5 := hf.at_ 5 (by kernel_rfl)
        have m6 := hf.at_ 6 (by kernel_rfl)
        have m7 := hf.at_ 7 (by kernel_rfl)
        have m8 := hf.at_ 8 (by kernel_rfl)
        have m9 := hf.at_ 9 (by kernel_rfl)
        have m10 := hf.at_ 10 (by kernel_rfl)
        have m11 := hf.at_ 11 (by kernel_rfl)
        have m24 := hf.at_ 24 (by kernel_rfl)
        have m25 := hf.at_ 25 (by kernel_rfl)
        have m26 := hf.at_ 26 (by kernel_rfl)
        have m27 := hf.at_ 27 (by kernel_rfl)
        have m28 := hf.at_ 28 (by kernel_rfl)
        have m29 := hf.at_ 29 (by kernel_rfl)
        have m30 := hf.at_ 30 (by kernel_rfl)
        rw [← hfv] at m0 m1 m2 m3 m4 m5 m6 m7 m8 m9 m10 m11 m24 m25 m26 m27 m28 m29 m30 m12 m13 m14 m15 m16 m17 m18 m19 m20 m21 m22 m23
        simp only [Array.getD_eq_getD_getElem?, List.getElem?_toArray, List.getElem?_cons_succ, List.getElem?_cons_zero, Option.getD_some] at m0 m1 m2 m3 m4 m5 m6 m7 m8 m9 m10 m11 m24 m25 m26 m27 m28 m29 m30
        simp only [List.range, List.range.loop, List.map_cons, List.map_nil, m0, m1, m2, m3, m4, m5, m6, m7, m8, m9, m10, m11, m24, m25, m26, m27, m28, m29, m30, m12, m13, m14, m15, m16, m17, m18, m19, m20, m21, m22, m23] at ea
        subst ea
        clear m0 m1 m2 m3 m4 m5 m6 m7 m8 m9 m10 m11 m24 m25 m26 m27 m28 m29 m30 m12 m13 m14 m15 m16 m17 m18 m19 m20 m21 m22 m23 hfv md hf
        try simp only []
        obtain ⟨d0, d1, d2, d3, d4, d5, d6, d7, d8, d9, _⟩ := id HZ.out.1
        have hso : Calls Tryz.prog 34 #[.agg #[.int .i64 s.k, .int .i64 s.tk, .int .i64 s.ta, .int .i64 f.k, .int .i64 f.n, .int .i64 f.ak, .int .i64 f.at_, .slice xa f.kids.length xc, .slice ya T.length yc, .slice za E.length zc]] u (fun e w' => e = .returned (slimV s.k (.agg #[.int .i64 s.k, .int .i64 s.tk, .int .i64 s.ta, .int .i64 f.k, .int .i64 f.n, .int .i64 f.ak, .int .i64 f.at_, .slice xa f.kids.length xc, .slice ya T.length yc, .slice za E.length zc])) ∧ Below u.heap.size u w') := slimmingOf_any u (withS s f T E) xa ya za xc yc zc
        go_wp2_with fail
        clear d0 d1 d2 d3 d4 d5 d6 d7 d8 d9
        refine hso.mono ?_
        clear hso
        rintro e5 u8 ⟨rfl, g8⟩
        have s8 := g8.size
        rcases fit_kind HKN.out.1 with hk | hk | hk
        · have hkv : slimV s.k (.agg #[.int .i64 s.k, .int .i64 s.tk, .int .i64 s.ta, .int .i64 f.k, .int .i64 f.n, .int .i64 f.ak, .int .i64 f.at_, .slice xa f.kids.length xc, .slice ya T.length yc, .slice za E.length zc]) = .iface 82 (.agg #[.int .i64 s.k, .int .i64 s.tk, .int .i64 s.ta, .int .i64 f.k, .int .i64 f.n, .int .i64 f.ak, .int .i64 f.at_, .slice xa f.kids.length xc, .slice ya T.length yc, .slice za E.length zc]) := by unfold slimV; rw [if_pos hk]
          rw [hkv]
          have hm2 := m_slim_set (.agg #[.int .i64 s.k, .int .i64 s.tk, .int .i64 s.ta, .int .i64 f.k, .int .i64 f.n, .int .i64 f.ak, .int .i64 f.at_, .slice xa f.kids.length xc, .slice ya T.length yc, .slice za E.length zc])
          have he2 := calls_set_slim
          have hsl : Calls Tryz.prog 97 #[(.agg #[.int .i64 s.k, .int .i64 s.tk, .int .i64 s.ta, .int .i64 f.k, .int .i64 f.n, .int .i64 f.ak, .int .i64 f.at_, .slice xa f.kids.length xc, .slice ya T.length yc, .slice za E.length zc])] u8 (fun e w' => ∃ v', e = .returned v' ∧ SlR u8 w' (withS s f T E) (.slice xa f.kids.length xc) (.slice ya T.length yc) (.slice za E.length zc) v' ∧ Below u8.heap.size u8 w') := slim_set u8 (withS s f T E) xa ya za xc yc zc hk
          clear hkv hk
          go_wp2_with fail
          refine hsl.mono ?_
          clear hsl hm2 he2
          rintro e6 u9 ⟨v9, rfl, hSL, g9⟩
          have s9 := g9.size
          have G9 : Below u.heap.size u u9 := g8.trans (g9.mono (by omega))
          obtain ⟨ps, rp, gp0, gp1, pa, pc, hps, rfl, GP, TP, hgp, hpl⟩ := hSL.gr (lo := B + 1) (HZ.out.2.2.1.under G9 (by have := HZ.out.2.1; omega)) (HZ.out.2.2.2.1.under G9 (by have := HZ.out.2.1; omega)) (HZ.out.2.2.2.2.1.under G9 (by have := HZ.out.2.1; omega)) (by have := HZ.out.2.1; omega)
          have HA0 : Hid (RowK u9 w.heap.size (.slice va vn vc) qs r ∧ Below w.heap.size w u9 ∧ TK u9 (B + 1) u9.heap.size ps rp ∧ GR shellTE u9 gp0 gp1 (.slice pa ps.length pc) ps) :=
            ⟨HRR.out.2.1.below (HZ.out.2.2.2.2.2.trans (G9.mono (by omega))) (Nat.le_refl _), HRR.out.2.2.trans ((HZ.out.2.2.2.2.2.trans (G9.mono (by omega))).mono (by omega)), TP, GP⟩
          have hpl2 : ps.length ≤ T.length + E.length + 1 := hpl
          have hln : qs.length + ps.length ≤ 16777216 := by have := HLN.out; omega
          have HPS : Hid (ps.map ShellT.s = shortS (withS s f T E)) := hps
          clear TP GP hSL hps hpl g9 G9 g8 HZ
          go_wp2_with (at_builtin; refine wpList_appG (E := shellTE) Tryz.underlying24 info_stmt rfl (by decide) rfl _ _ rfl w.heap.size gp0 gp1 rfl rfl HA0.out.1.row HA0.out.2.2.2 (by omega) hln ?_)
          intro v10 u10 hA
          have hgr := hA.grown
          have hAS : u9.heap.size ≤ u10.heap.size := hgr.size
          obtain ⟨rr, R10⟩ := HA0.out.1.app hA HA0.out.2.2.1 (by omega) (Nat.le_refl _) (fun i hi => .inl (by have := HTB.out.2 i hi; omega)) (fun g hg => .inl (by have := HTB.out.1 g hg; omega)) hAS (fun k hk hne => grownBy_blockI hgr hk hne)
          have G10 : Below w.heap.size w u10 := HA0.out.2.1.trans (hA.below HA0.out.1.row (Nat.le_refl _) (by omega))
          have HN : Hid ((qs ++ ps).map ShellT.s = slimTD (d + 1) (ss.take (j + 1)) ∧ RowK u10 w.heap.size v10 (qs ++ ps) rr ∧ Below w.heap.size w u10) := ⟨by rw [HX1.out, List.map_append, HRR.out.1, HPS.out], R10, G10⟩
          clear hA hgr R10 G10 HA0
          go_wp2
          go_roundw
          case rel => exact ⟨j + 1, _, rr, by omega, by go_num, by omega, HN.out⟩
          case measure => simp [intOf]; omega
        · have hkv : slimV s.k (.agg #[.int .i64 s.k, .int .i64 s.tk, .int .i64 s.ta, .int .i64 f.k, .int .i64 f.n, .int .i64 f.ak, .int .i64 f.at_, .slice xa f.kids.length xc, .slice ya T.length yc, .slice za E.length zc]) = .iface 83 (.agg #[.int .i64 s.k, .int .i64 s.tk, .int .i64 s.ta, .int .i64 f.k, .int .i64 f.n, .int .i64 f.ak, .int .i64 f.at_, .slice xa f.kids.length xc, .slice ya T.length yc, .slice za E.length zc]) := by unfold slimV; rw [if_neg (by rw [hk]; decide), if_pos hk]
          rw [hkv]
          have hm2 := m_slim_if (.agg #[.int .i64 s.k, .int .i64 s.tk, .int .i64 s.ta, .int .i64 f.k, .int .i64 f.n, .int .i64 f.ak, .int .i64 f.at_, .slice xa f.kids.length xc, .slice ya T.length yc, .slice za E.length zc])
          have he2 := calls_if_slim
          have hsl : Calls Tryz.prog 105 #[(.agg #[.int .i64 s.k, .int .i64 s.tk, .int .i64 s.ta, .int .i64 f.k, .int .i64 f.n, .int .i64 f.ak, .int .i64 f.at_, .slice xa f.kids.length xc, .slice ya T.length yc, .slice za E.length zc])] u8 (fun e w' => ∃ v', e = .returned v' ∧ SlR u8 w' (withS s f T E) (.slice xa f.kids.length xc) (.slice ya T.length yc) (.slice za E.length zc) v' ∧ Below u8.heap.size u8 w') := slim_if u8 (withS s f T E) xa ya za xc yc zc hk HLN.out.2.1 HLN.out.2.2
          clear hkv hk
          go_wp2_with fail
          refine hsl.mono ?_
          clear hsl hm2 he2
          rintro e6 u9 ⟨v9, rfl, hSL, g9⟩
          have s9 := g9.size
          have G9 : Below u.heap.size u u9 := g8.trans (g9.mono (by omega))
          obtain ⟨ps, rp, gp0, gp1, pa, pc, hps, rfl, GP, TP, hgp, hpl⟩ := hSL.gr (lo := B + 1) (HZ.out.2.2.1.under G9 (by have := HZ.out.2.1; omega)) (HZ.out.2.2.2.1.under G9 (by have := HZ.out.2.1; omega)) (HZ.out.2.2.2.2.1.under G9 (by have := HZ.out.2.1; omega)) (by have := HZ.out.2.1; omega)
          have HA0 : Hid (RowK u9 w.heap.size (.slice va vn vc) qs r ∧ Below w.heap.size w u9 ∧ TK u9 (B + 1) u9.heap.size ps rp ∧ GR shellTE u9 gp0 gp1 (.slice pa ps.length pc) ps) :=
            ⟨HRR.out.2.1.below (HZ.out.2.2.2.2.2.trans (G9.mono (by omega))) (Nat.le_refl _), HRR.out.2.2.trans ((HZ.out.2.2.2.2.2.trans (G9.mono (by omega))).mono (by omega)), TP, GP⟩
          have hpl2 : ps.length ≤ T.length + E.length + 1 := hpl
          have hln : qs.length + ps.length ≤ 16777216 := by have := HLN.out; omega
          have HPS : Hid (ps.map ShellT.s = shortS (withS s f T E)) := hps
          clear TP GP hSL hps hpl g9 G9 g8 HZ
          go_wp2_with (at_builtin; refine wpList_appG (E := shellTE) Tryz.underlying24 info_stmt rfl (by decide) rfl _ _ rfl w.heap.size gp0 gp1 rfl rfl HA0.out.1.row HA0.out.2.2.2 (by omega) hln ?_)
          intro v10 u10 hA
          have hgr := hA.grown
          have hAS : u9.heap.size ≤ u10.heap.size := hgr.size
          obtain ⟨rr, R10⟩ := HA0.out.1.app hA HA0.out.2.2.1 (by omega) (Nat.le_refl _) (fun i hi => .inl (by have := HTB.out.2 i hi; omega)) (fun g hg => .inl (by have := HTB.out.1 g hg; omega)) hAS (fun k hk hne => grownBy_blockI hgr hk hne)
          have G10 : Below w.heap.size w u10 := HA0.out.2.1.trans (hA.below HA0.out.1.row (Nat.le_refl _) (by omega))
          have HN : Hid ((qs ++ ps).map ShellT.s = slimTD (d + 1) (ss.take (j + 1)) ∧ RowK u10 w.heap.size v10 (qs ++ ps) rr ∧ Below w.heap.size w u10) := ⟨by rw [HX1.out, List.map_append, HRR.out.1, HPS.out], R10, G10⟩
          clear hA hgr R10 G10 HA0
          go_wp2
          go_roundw
          case rel => exact ⟨j + 1, _, rr, by omega, by go_num, by omega, HN.out⟩
          case measure => simp [intOf]; omega
        · have hkv : slimV s.k (.agg #[.int .i64 s.k, .int .i64 s.tk, .int .i64 s.ta, .int .i64 f.k, .int .i64 f.n, .int .i64 f.ak, .int .i64 f.at_, .slice xa f.kids.length xc, .slice ya T.length yc, .slice za E.length zc]) = .iface 84 (.agg #[.int .i64 s.k, .int .i64 s.tk, .int .i64 s.ta, .int .i64 f.k, .int .i64 f.n, .int .i64 f.ak, .int .i64 f.at_, .slice xa f.kids.length xc, .slice ya T.length yc, .slice za E.length zc]) := by unfold slimV; rw [if_neg (by rw [hk]; decide), if_neg (by rw [hk]; decide)]
          rw [hkv]
          have hm2 := m_slim_while (.agg #[.int .i64 s.k, .int .i64 s.tk, .int .i64 s.ta, .int .i64 f.k, .int .i64 f.n, .int .i64 f.ak, .int .i64 f.at_, .slice xa f.kids.length xc, .slice ya T.length yc, .slice za E.length zc])
          have he2 := calls_while_slim
          have hsl : Calls Tryz.prog 110 #[(.agg #[.int .i64 s.k, .int .i64 s.tk, .int .i64 s.ta, .int .i64 f.k, .int .i64 f.n, .int .i64 f.ak, .int .i64 f.at_, .slice xa f.kids.length xc, .slice ya T.length yc, .slice za E.length zc])] u8 (fun e w' => ∃ v', e = .returned v' ∧ SlR u8 w' (withS s f T E) (.slice xa f.kids.length xc) (.slice ya T.length yc) (.slice za E.length zc) v' ∧ Below u8.heap.size u8 w') := slim_while u8 (withS s f T E) xa ya za xc yc zc (by show ¬ s.k = 1; rw [hk]; decide) (by show ¬ s.k = 2; rw [hk]; decide)
          clear hkv hk
          go_wp2_with fail
          refine hsl.mono ?_
          clear hsl hm2 he2
          rintro e6 u9 ⟨v9, rfl, hSL, g9⟩
          have s9 := g9.size
          have G9 : Below u.heap.size u u9 := g8.trans (g9.mono (by omega))
          obtain ⟨ps, rp, gp0, gp1, pa, pc, hps, rfl, GP, TP, hgp, hpl⟩ := hSL.gr (lo := B + 1) (HZ.out.2.2.1.under G9 (by have := HZ.out.2.1; omega)) (HZ.out.2.2.2.1.under G9 (by have := HZ.out.2.1; omega)) (HZ.out.2.2.2.2.1.under G9 (by have := HZ.out.2.1; omega)) (by have := HZ.out.2.1; omega)
          have HA0 : Hid (RowK u9 w.heap.size (.slice va vn vc) qs r ∧ Below w.heap.size w u9 ∧ TK u9 (B + 1) u9.heap.size ps rp ∧ GR shellTE u9 gp0 gp1 (.slice pa ps.length pc) ps) :=
            ⟨HRR.out.2.1.below (HZ.out.2.2.2.2.2.trans (G9.mono (by omega))) (Nat.le_refl _), HRR.out.2.2.trans ((HZ.out.2.2.2.2.2.trans (G9.mono (by omega))).mono (by omega)), TP, GP⟩
          have hpl2 : ps.length ≤ T.length + E.length + 1 := hpl
          have hln : qs.length + ps.length ≤ 16777216 := by have := HLN.out; omega
          have HPS : Hid (ps.map ShellT.s = shortS (withS s f T E)) := hps
          clear TP GP hSL hps hpl g9 G9 g8 HZ
          go_wp2_with (at_builtin; refine wpList_appG (E := shellTE) Tryz.underlying24 info_stmt rfl (by decide) rfl _ _ rfl w.heap.size gp0 gp1 rfl rfl HA0.out.1.row HA0.out.2.2.2 (by omega) hln ?_)
          intro v10 u10 hA
          have hgr := hA.grown
          have hAS : u9.heap.size ≤ u10.heap.size := hgr.size
          obtain ⟨rr, R10⟩ := HA0.out.1.app hA HA0.out.2.2.1 (by omega) (Nat.le_refl _) (fun i hi => .inl (by have := HTB.out.2 i hi; omega)) (fun g hg => .inl (by have := HTB.out.1 g hg; omega)) hAS (fun k hk hne => grownBy_blockI hgr hk hne)
          have G10 : Below w.heap.size w u10 := HA0.out.2.1.trans (hA.below HA0.out.1.row (Nat.le_refl _) (by omega))
          have HN : Hid ((qs ++ ps).map ShellT.s = slimTD (d + 1) (ss.take (j + 1)) ∧ RowK u10 w.heap.size v10 (qs ++ ps) rr ∧ Below w.heap.size w u10) := ⟨by rw [HX1.out, List.map_append, HRR.out.1, HPS.out], R10, G10⟩
          clear hA hgr R10 G10 HA0
          go_wp2
          go_roundw
          case rel => exact ⟨j + 1, _, rr, by omega, by go_num, by omega, HN.out⟩
          case measure => simp [intOf]; omega
    · obtain rfl : j = ss.length := by omega
      have HO : Hid (SO wr w.heap.size wr.heap.size (.slice va vn vc) (slimTD d0 ss) ∧ Below w.heap.size w wr) := ⟨by
        have h1 := HR.out.2.1.so (by omega)
        rw [HR.out.1, List.take_length] at h1
        exact h1, HR.out.2.2⟩
      clear HR
      go_wp2
      go_ret
      exact ⟨_, rfl, HO.out⟩

theorem ltI : ∀ d, LtI d
  | 0 => ltI_step fun d h => by omega
  | d + 1 => ltI_step fun d' h => by obtain rfl : d = d' := by omega
                                     exact ltI d
end Go.Proofs.YtkeockippmmneaaGreat
