/-
  Chapter 10's program: what the rules ask of a part, and the numbers that they make.
-/
import Derived.Test.YtkeockippmmneaaGreatSlimC
import Derived.Test.YtkeockippmmneaaGreatDag2
import Derived.Test.YtkeockippmmneaaGreatQS2
namespace Go.Proofs.YtkeockippmmneaaGreat
open Go.ChangeShapes Go.WideShapes Go.ChangeAt Go.RowKit
set_option linter.unusedVariables false
set_option maxRecDepth 100000

theorem isNumber_any (w : World) (e : ExprD) (ad : Option Go.Addr) (len cap : Nat) :
    Calls Tryz.prog 62 #[.agg #[.int .i64 e.k, .int .i64 e.n, .int .i64 e.ak, .int .i64 e.at_, .slice ad len cap]] w fun en w' => en = .returned (.bool (e.k == 1)) ∧ Below w.heap.size w w' := by
  have b1 := fun o => (Below.refl w.heap.size w).alloc (Nat.le_refl _) o
  go_enter Tryz.func62, Tryz.ntmps62
  go_wp2
  go_ret
  exact ⟨rfl, b1 _⟩

theorem isThe_any (w : World) (e : ExprD) (ad : Option Go.Addr) (len cap : Nat) (n : Int) :
    Calls Tryz.prog 65 #[.agg #[.int .i64 e.k, .int .i64 e.n, .int .i64 e.ak, .int .i64 e.at_, .slice ad len cap], .int .i64 n] w fun en w' => en = .returned (.bool (isTheB e n)) ∧ Below w.heap.size w w' := by
  obtain ⟨u0, hu0, G0, F0, S0⟩ : ∃ u0, w.alloc (.cells #[.int .i64 e.k, .int .i64 e.n, .int .i64 e.ak, .int .i64 e.at_, .slice ad len cap] 42) = u0 ∧ Below w.heap.size w u0 ∧ Five u0 w.heap.size (.int .i64 e.k) (.int .i64 e.n) (.int .i64 e.ak) (.int .i64 e.at_) (.slice ad len cap) ∧ u0.heap.size = w.heap.size + 1 :=
    ⟨_, rfl, (Below.refl w.heap.size w).alloc (Nat.le_refl _) _, five_new w _ _ _ _ _ _, by simp⟩
  obtain ⟨c0, c1, c2, c3, c4, _⟩ := id F0
  have hn := isNumber_any u0 e ad len cap
  have hr : isTheB e n = ((e.k == 1) && (e.n == n)) := rfl
  have HR : Hid (isTheB e n = ((e.k == 1) && (e.n == n))) := hr
  clear hr
  go_enter Tryz.func65, Tryz.ntmps65
  go_wp2_with fail
  clear hu0 c0 c1 c2 c3 c4
  refine hn.mono ?_
  clear hn
  rintro e1 u1 ⟨rfl, g1⟩
  have G1 := G0.trans (g1.mono (by omega))
  obtain ⟨c0, c1, c2, c3, c4, _⟩ := F0.under g1 (by omega)
  cases hk : (e.k == 1) with
  | false =>
    go_wp2
    go_ret
    exact ⟨ret_bool (by rw [HR.out, hk]; rfl), G1⟩
  | true =>
    go_wp2
    go_ret
    exact ⟨ret_bool (by rw [HR.out, hk]; rfl), G1⟩

theorem isTwoN_any (w : World) (k : Int) :
    Calls Tryz.prog 64 #[.int .i64 k] w fun en w' => en = .returned (.bool (decide (3 ≤ k) && decide (k ≤ 9))) ∧ w' = w := by
  by_cases h3 : 3 ≤ k
  · by_cases h9 : k ≤ 9
    · have e : (decide (3 ≤ k) && decide (k ≤ 9)) = true := by simp [h3, h9]
      rw [e]
      go_enter Tryz.func64, Tryz.ntmps64
      go_wp2
      go_ret
      exact ⟨rfl, rfl⟩
    · have e : (decide (3 ≤ k) && decide (k ≤ 9)) = false := by simp [h9]
      rw [e]
      go_enter Tryz.func64, Tryz.ntmps64
      go_wp2
      go_ret
      exact ⟨rfl, rfl⟩
  · have e : (decide (3 ≤ k) && decide (k ≤ 9)) = false := by simp [h3]
    rw [e]
    go_enter Tryz.func64, Tryz.ntmps64
    go_wp2
    go_ret
    exact ⟨rfl, rfl⟩

theorem number_any (w : World) (n : Int) :
    Calls Tryz.prog 66 #[.int .i64 n] w fun en w' => en = .returned (.agg #[.int .i64 1, .int .i64 n, .int .i64 0, .int .i64 0, .slice none 0 0]) ∧ Below w.heap.size w w' := by
  have b1 := fun o => (Below.refl w.heap.size w).alloc (Nat.le_refl _) o
  go_enter Tryz.func66, Tryz.ntmps66
  go_wp2
  refine bodyPost_ret (v := .agg #[.int .i64 1, .int .i64 n, .int .i64 0, .int .i64 0, .slice none 0 0]) ?_ rfl ⟨rfl, b1 _⟩
  simp [results, Tryz.results66, go_sem]

/-- The five cells of a variable are written. -/
theorem fiveStore {u : World} {R : Nat} {a b c d e : Value} (h : Five u R a b c d e) (v0 v1 v2 v3 v4 : Value) :
    ∃ u1, ((((u.setCell ⟨R, 0, none⟩ v0).setCell ⟨R, 1, none⟩ v1).setCell ⟨R, 2, none⟩ v2).setCell ⟨R, 3, none⟩ v3).setCell ⟨R, 4, none⟩ v4 = u1 ∧ Five u1 R v0 v1 v2 v3 v4 ∧ (∀ k, k ≠ R → u1.heap[k]? = u.heap[k]?) ∧ u1.heap.size = u.heap.size ∧ Below R u u1 :=
  ⟨_, rfl, ((((h.set0 _).set1 _).set2 _).set3 _).set4 _, fun k hk => by rw [Below.heap_setCell _ _ _ _ hk, Below.heap_setCell _ _ _ _ hk, Below.heap_setCell _ _ _ _ hk, Below.heap_setCell _ _ _ _ hk, Below.heap_setCell _ _ _ _ hk], by simp,
    (((((Below.refl _ _).setCell (p := ⟨R, 0, none⟩) (Nat.le_refl _) _).setCell (p := ⟨R, 1, none⟩) (Nat.le_refl _) _).setCell (p := ⟨R, 2, none⟩) (Nat.le_refl _) _).setCell (p := ⟨R, 3, none⟩) (Nat.le_refl _) _).setCell (p := ⟨R, 4, none⟩) (Nat.le_refl _) _⟩

section
variable {P : Program} {ops : Array Oper} {Q : Exit → Act → World → Prop} {a0 : Act} {w0 : World} {R : World → World → Prop} {Φ : Nat → Value → World → Prop} {J : Array Bool → Act → World → Prop}

/-- A region whose last operation waits for all others: the others are walked once each, in whatever order; then the last. -/
theorem wp_region_last2 {id : Nat} (n : Nat) (on : Oper) (hn : ops.size = n + 1) (hon : ops[n]? = some on) (hlast : lastB ops n = true)
    (hm : P.follows .mixedOrders = true) (hback : backB2 ops = true) (hown : ownSlotsB ops = true)
    (hR0 : R w0.drew w0.drew) (hRt : ∀ a b c, R a b → R b c → R a c)
    (stab : ∀ j v w w', R w w' → Φ j v w → Φ j v w')
    (hJ0 : J (Array.replicate ops.size false) a0 w0.drew)
    (step : ∀ (i : Nat) (o : Oper), ops[i]? = some o → i < n → ∀ (L : Array Bool) (a : Act) (w : World), Frames ops a0 a → R w0.drew w → L.size = ops.size → L.getD i true = false →
      (∀ (j : Nat) (oj : Oper), ops[j]? = some oj → L.getD j true = true → Φ j (slotOf oj a) w) →
      (∀ e ∈ o.after, Region.binds .any e = true → L.getD e.on true = true) → J L a w →
      ∀ K' : Act → World → Prop, (∀ v w', R w w' → Φ i (slotOf o (a.put o.dst v)) w' → J (L.setIfInBounds i true) (a.put o.dst v) w' → K' (a.put o.dst v) w') →
        if Region.wanted o (yielded ops a.tmps) = true then Oper.wp P o a w K' Q else K' (a.put o.dst undef) w)
    (fin : ∀ (L : Array Bool) (a : Act) (w : World), Frames ops a0 a → R w0.drew w → (∀ (j : Nat) (oj : Oper), j < n → ops[j]? = some oj → L.getD j true = true ∧ Φ j (slotOf oj a) w) → J L a w →
      ∀ K' : Act → World → Prop, (∀ a' w', Q .normal a' w' → K' a' w') → if Region.wanted on (yielded ops a.tmps) = true then Oper.wp P on a w K' Q else K' (a.put on.dst undef) w) :
    (Code.region id ops true).wp P Q a0 w0 := by
  refine wp_region_any hm ?_
  have main : ∀ (fuel : Nat) (L : Array Bool) (a : Act) (w : World), L.size = ops.size → unlisted L ≤ fuel → L.getD n true = false → Frames ops a0 a → R w0.drew w →
      (∀ (j : Nat) (oj : Oper), ops[j]? = some oj → L.getD j true = true → Φ j (slotOf oj a) w) → J L a w → wpAny P .any ops Q fuel L a w := by
    intro fuel
    induction fuel with
    | zero =>
      intro L a w hsz hu hnl hf hr hp hj
      have hz := unlisted_zero (L := L) (by omega) n
      rw [hnl] at hz; cases hz
    | succ fuel ih =>
      intro L a w hsz hu hnl hf hr hp hj
      refine ⟨fun hne => ?_, fun i hi => ?_⟩
      · have := all_listed2 hback hsz hne (n + 1) n (by omega)
        rw [hnl] at this; cases this
      obtain ⟨hL, o, ho, hall⟩ := mem_ready.1 hi
      have hafter : ∀ e ∈ o.after, Region.binds .any e = true → L.getD e.on true = true := fun e he hb => by
        have := hall e he hb
        rcases Nat.lt_or_ge e.on L.size with h' | h'
        · simp [h'] at this ⊢; exact this
        · simp [Array.getElem?_eq_none h']
      have hilt : i < n + 1 := by rw [← hn]; exact (Array.getElem?_eq_some_iff.mp ho).1
      by_cases hin : i = n
      · subst hin
        rw [hon] at ho; cases ho
        refine wpOp_step hon fun K' hK' => fin L a w hf hr (fun j oj hjn hj => ?_) hj K' fun a' w' hq => hK' _ _ ?_
        · obtain ⟨e, he, hb, rfl⟩ := last_of hlast hon hjn
          exact ⟨hafter e he hb, hp _ oj hj (hafter e he hb)⟩
        · have hall' : Region.ready .any ops (L.setIfInBounds i true) = [] := by
            rw [List.eq_nil_iff_forall_not_mem]
            intro k hk
            obtain ⟨hk1, ok, hok, _⟩ := mem_ready.1 hk
            have hkl : k < i + 1 := by rw [← hn]; exact (Array.getElem?_eq_some_iff.mp hok).1
            by_cases e : i = k
            · subst e
              have hil : i < L.size := by omega
              simp [hil] at hk1
            · rw [getD_set_ne true e] at hk1
              obtain ⟨e', he, hb, rfl⟩ := last_of hlast hon (show k < i by omega)
              rw [hafter e' he hb] at hk1; cases hk1
          cases fuel with
          | zero => exact ⟨hall', hq⟩
          | succ fuel => exact ⟨fun _ => hq, fun k hk => by rw [hall'] at hk; cases hk⟩
      · refine wpOp_step ho fun K' hK' => step i o ho (by omega) L a w hf hr hsz hL hp hafter hj K' fun v w' hr' hphi hj' => hK' _ _ (ih _ _ _ (by simp [hsz]) (by have := unlisted_set hL; omega) (by rw [getD_set_ne true hin]; exact hnl) (hf.put ho v) (hRt _ _ _ hr hr') ?_ hj')
        intro j oj hj hl
        by_cases e : i = j
        · subst e
          rw [ho] at hj; cases hj
          exact hphi
        · rw [slotOf_put hown ho hj e]
          rw [getD_set_ne true e] at hl
          exact stab j _ w w' hr' (hp j oj hj hl)
  exact main ops.size _ a0 _ (by simp) (by simp [unlisted, List.countP_replicate]) (by simp [hn]) ⟨rfl, rfl, fun _ _ => rfl⟩ hR0 (by
    intro j oj hj hl
    have hjl : j < ops.size := (Array.getElem?_eq_some_iff.mp hj).1
    simp [hjl] at hl) hJ0
end

/-- A variable that one operation of a region writes. -/
structure ResJ (S B : Nat) (v0 v1 v2 v3 v4 : Value) (L : Array Bool) (u : World) : Prop where
  lt : B < u.heap.size
  there : ∃ a b c d e, Five u B a b c d e
  done : L.getD S true = true → Five u B v0 v1 v2 v3 v4

theorem ResJ.step {S B i : Nat} {v0 v1 v2 v3 v4 : Value} {L : Array Bool} {u u' : World} (h : ResJ S B v0 v1 v2 v3 v4 L u) (hi : i ≠ S) (hb : Below u.heap.size u u') : ResJ S B v0 v1 v2 v3 v4 (L.setIfInBounds i true) u' := by
  refine ⟨Nat.lt_of_lt_of_le h.lt hb.size, ?_, fun hl => ?_⟩
  · obtain ⟨a, b, c, d, e, hf⟩ := h.there
    exact ⟨a, b, c, d, e, hf.under hb h.lt⟩
  · rw [getD_set_ne true hi] at hl
    exact (h.done hl).under hb h.lt

theorem Five.aside' {u u' : World} {B B' : Nat} {v0 v1 v2 v3 v4 : Value} (h : Five u B v0 v1 v2 v3 v4) (ho : Out B' (B' + 1) u u') (hlt : B < u.heap.size) (hne : B ≠ B') : Five u' B v0 v1 v2 v3 v4 := by
  have hk := ho.block B hlt (by omega)
  exact ⟨by rw [World.cell?_of_block (w := u) hk]; exact h.c0, by rw [World.cell?_of_block (w := u) hk]; exact h.c1, by rw [World.cell?_of_block (w := u) hk]; exact h.c2, by rw [World.cell?_of_block (w := u) hk]; exact h.c3, by rw [World.cell?_of_block (w := u) hk]; exact h.c4, fun o => by rw [World.frozen?_of_block (w := u) hk]; exact h.f o⟩

theorem outB_store {u u5 : World} {R : Nat} (hb : Below R u u5) (hn : ∀ k, k ≠ R → u5.heap[k]? = u.heap[k]?) (hs : u5.heap.size = u.heap.size) : Out R (R + 1) u u5 :=
  ⟨hb.os, hb.tape, hb.output, by omega, fun k hk ho => hn k (by omega)⟩
theorem outB_refl (R : Nat) (u : World) : Out R (R + 1) u u := ⟨rfl, rfl, rfl, Nat.le_refl _, fun _ _ _ => rfl⟩

theorem KO.at_ {w : World} {lo hi : Nat} {v : Value} {es : List ExprD} (h : KO w lo hi v es) {i : Nat} {e : ExprD} (hie : es[i]? = some e) :
    ∃ b off cap s l h', v = .slice (some ⟨b, off, none⟩) es.length cap ∧ lo ≤ b ∧ b < hi ∧ Cell5 w b (off + i * 5) e s ∧ KO w l h' s e.kids ∧ lo ≤ l ∧ h' ≤ hi := by
  cases h with
  | nil lo hi ad cap hc => simp at hie
  | cons lo hi b off cap es ss l h h0 h1 h2 h3 h4 hf hc hr hd hk =>
    have hil : i < es.length := (List.getElem?_eq_some_iff.mp hie).1
    exact ⟨b, off, cap, ss i, l i, h i, rfl, h3, h4, hc i e hie, hk i e hie, (hr i hil).1, (hr i hil).2.1⟩

theorem eo_num (w : World) (lo hi : Nat) (n : Int) : EO w lo hi (.agg #[.int .i64 1, .int .i64 n, .int .i64 0, .int .i64 0, .slice none 0 0]) (numE n) := ⟨_, rfl, .nil _ _ none 0 (by decide)⟩
theorem eo_none (w : World) (lo hi : Nat) : EO w lo hi (.agg #[.int .i64 0, .int .i64 0, .int .i64 0, .int .i64 0, .slice none 0 0]) (.mk 0 0 0 0 []) := ⟨_, rfl, .nil _ _ none 0 (by decide)⟩

/-- The variables of a rule. -/
theorem rule_start (w : World) (e : ExprD) (s : Value) (T : TypeId) : ∃ u0, (w.alloc (.cells #[.int .i64 e.k, .int .i64 e.n, .int .i64 e.ak, .int .i64 e.at_, s] T)).alloc (.cells #[.int .i64 0, .int .i64 0, .int .i64 0, .int .i64 0, .slice none 0 0] T) = u0 ∧
    Below w.heap.size w u0 ∧ Five u0 w.heap.size (.int .i64 e.k) (.int .i64 e.n) (.int .i64 e.ak) (.int .i64 e.at_) s ∧ Five u0 (w.heap.size + 1) (.int .i64 0) (.int .i64 0) (.int .i64 0) (.int .i64 0) (.slice none 0 0) ∧ u0.heap.size = w.heap.size + 2 := by
  refine ⟨_, rfl, ((Below.refl _ w).alloc (Nat.le_refl _) _).alloc (by simp) _, (five_new w _ _ _ _ _ _).under ((Below.refl _ _).alloc (Nat.le_refl _) _) (by simp), ?_, by simp⟩
  have h := five_new (w.alloc (.cells #[.int .i64 e.k, .int .i64 e.n, .int .i64 e.ak, .int .i64 e.at_, s] T)) (.int .i64 0) (.int .i64 0) (.int .i64 0) (.int .i64 0) (.slice none 0 0) T
  rwa [World.size_alloc] at h

/-- What the j-th rule answers. -/
def RuleP (w : World) (lo hi j : Nat) (e : ExprD) (en : Ending) (w' : World) : Prop :=
  ∃ v' x b, en = .returned (.tuple #[v', .bool b]) ∧ EO w' lo hi v' x ∧ Below w.heap.size w w' ∧ ruleD j e = if b then some x else none

theorem rule_done {w w' : World} {lo hi j : Nat} {e : ExprD} {en : Ending} {v' : Value} {x : ExprD} {b : Bool} (h1 : en = .returned (.tuple #[v', .bool b])) (h2 : EO w' lo hi v' x) (h3 : Below w.heap.size w w') (h4 : ruleD j e = if b then some x else none) : RuleP w lo hi j e en w' :=
  ⟨v', x, b, h1, h2, h3, h4⟩

/-- A function is the j-th rule. -/
def RuleC (f j : Nat) : Prop := ∀ (d : Nat) (w : World) (lo hi : Nat) (v : Value) (e : ExprD), d ≤ 6 → EO w lo hi v e → hi ≤ w.heap.size → formE (d + 1) e = true →
  Calls Tryz.prog f #[v] w (RuleP w lo hi j e)

/-- What a rule may know of its part. -/
theorem form_know {d : Nat} {e : ExprD} (h : formE (d + 1) e = true) : kidsOf e.k = e.kids.length ∧ (∀ x, x ∈ e.kids → formE d x = true) := by
  rw [formE_succ, Bool.and_eq_true, List.all_eq_true] at h
  have hp := h.1
  unfold partB at hp
  rw [Bool.and_eq_true, Bool.and_eq_true, beq_iff_eq] at hp
  exact ⟨hp.1.1, h.2⟩

theorem form_num_kids {d : Nat} {x : ExprD} (h : formE d x = true) (hk : x.k = 1) : x.kids.length = 0 := by
  cases d with
  | zero => rw [formE] at h; cases h
  | succ d =>
    have := (form_know h).1
    rw [hk] at this
    have h0 : kidsOf 1 = 0 := rfl
    omega

theorem slim_two {d : Nat} {e : ExprD} (h : formE (d + 1) e = true) (h39 : 3 ≤ e.k ∧ e.k ≤ 9) : ∃ x y, e.kids = [x, y] ∧ kidN e 0 = x ∧ kidN e 1 = y := by
  have hl := (form_know h).1
  unfold kidsOf at hl
  rw [if_neg (by omega), if_neg (by omega), if_neg (by omega), if_pos h39] at hl
  match hk : e.kids, hl with
  | [x, y], _ => exact ⟨x, y, rfl, by unfold kidN; rw [hk]; rfl, by unfold kidN; rw [hk]; rfl⟩
  | [], hl => simp at hl
  | [x], hl => simp at hl
  | x :: y :: z :: zs, hl => simp at hl; omega

theorem slim_one {d : Nat} {e : ExprD} (h : formE (d + 1) e = true) (h10 : e.k = 10) : ∃ x, e.kids = [x] ∧ kidN e 0 = x := by
  have hl := (form_know h).1
  rw [h10] at hl
  have h1 : kidsOf 10 = 1 := rfl
  rw [h1] at hl
  match hk : e.kids, hl with
  | [x], _ => exact ⟨x, rfl, by unfold kidN; rw [hk]; rfl⟩
  | [], hl => simp at hl
  | x :: y :: zs, hl => simp at hl; omega

/-- The kids' cells, of a part of two. -/
theorem cells_two {w : World} {lo hi : Nat} {s : Value} {e x y : ExprD} (h : KO w lo hi s e.kids) (hk : e.kids = [x, y]) :
    ∃ b off cap sx sy lx hx ly hy, s = .slice (some ⟨b, off, none⟩) 2 cap ∧ lo ≤ b ∧ b < hi ∧ Cell5 w b off x sx ∧ Cell5 w b (off + 5) y sy ∧ KO w lx hx sx x.kids ∧ KO w ly hy sy y.kids ∧ (lo ≤ lx ∧ hx ≤ hi) ∧ lo ≤ ly ∧ hy ≤ hi := by
  obtain ⟨b, off, cap, sx, lx, hx, hv, h1, h2, h3, h4, h5, h6⟩ := h.at_ (i := 0) (e := x) (by rw [hk]; rfl)
  obtain ⟨b', off', cap', sy, ly, hy, hv', h1', h2', h3', h4', h5', h6'⟩ := h.at_ (i := 1) (e := y) (by rw [hk]; rfl)
  rw [hv] at hv'
  simp only [Value.slice.injEq, Option.some.injEq, Go.Addr.mk.injEq, true_and, and_true] at hv'
  obtain ⟨⟨rfl, rfl⟩, rfl⟩ := hv'
  rw [hk] at hv
  rw [Nat.zero_mul, Nat.add_zero] at h3
  rw [Nat.one_mul] at h3'
  exact ⟨b, off, cap, sx, sy, lx, hx, ly, hy, hv, h1, h2, h3, h3', h4, h4', ⟨h5, h6⟩, h5', h6'⟩

theorem cells_one {w : World} {lo hi : Nat} {s : Value} {e x : ExprD} (h : KO w lo hi s e.kids) (hk : e.kids = [x]) :
    ∃ b off cap sx lx hx, s = .slice (some ⟨b, off, none⟩) 1 cap ∧ lo ≤ b ∧ b < hi ∧ Cell5 w b off x sx ∧ KO w lx hx sx x.kids ∧ lo ≤ lx ∧ hx ≤ hi := by
  obtain ⟨b, off, cap, sx, lx, hx, hv, h1, h2, h3, h4, h5, h6⟩ := h.at_ (i := 0) (e := x) (by rw [hk]; rfl)
  rw [hk] at hv
  rw [Nat.zero_mul, Nat.add_zero] at h3
  exact ⟨b, off, cap, sx, lx, hx, hv, h1, h2, h3, h4, h5, h6⟩

set_option maxHeartbeats 4000000 in
theorem reckoned_any (w : World) (lo hi : Nat) (s : Value) (e : ExprD) (h : KR w lo hi s e.kids) (hhi : hi ≤ w.heap.size) (hN : NumP e) (hk : ∀ x, x ∈ e.kids → x.k = 1 ∧ x.kids.length = 0) :
    Calls Tryz.prog 63 #[.agg #[.int .i64 e.k, .int .i64 e.n, .int .i64 e.ak, .int .i64 e.at_, s]] w fun en w' => en = .returned (.agg #[.int .i64 1, .int .i64 (numVal e), .int .i64 0, .int .i64 0, .slice none 0 0]) ∧ Below w.heap.size w w' := by
  have hC := fun W hW hh => numComes_any W lo hi s (.slice none 0 0) (.slice none 0 0) (.slice none 0 0) e hW hh hN hk
  obtain ⟨ad, cap, rfl, _, _⟩ := h.shape
  have HK : Hid (KR w lo hi (.slice ad e.kids.length cap) e.kids) := h
  clear h hN hk
  generalize numVal e = n at *
  obtain ⟨u0, hu0, G0, F0, Z0, S0⟩ := rule_start w e (.slice ad e.kids.length cap) 42
  have hC0 := hC u0 (HK.out.under G0 hhi) (by omega)
  obtain ⟨c0, c1, c2, c3, c4, _⟩ := id F0
  clear hC
  go_enter Tryz.func63, Tryz.ntmps63
  go_wp2_with fail
  clear hu0 c0 c1 c2 c3 c4
  refine hC0.mono ?_
  clear hC0
  rintro e1 u1 ⟨rfl, g1⟩
  have G1 := G0.trans (g1.mono (by omega))
  have Z1 := Z0.under g1 (by omega)
  have S1 := g1.size
  go_wp2_with fail
  refine (number_any u1 n).mono ?_
  rintro e2 u2 ⟨rfl, g2⟩
  have G2 := G1.trans (g2.mono (by omega))
  have Z2 := Z1.under g2 (by omega)
  obtain ⟨u5, hu5, F5, N5, S5, B5⟩ := fiveStore Z2 (.int .i64 1) (.int .i64 n) (.int .i64 0) (.int .i64 0) (.slice none 0 0)
  have HU5 : Hid (_ = u5) := hu5
  have HB : Hid (Below w.heap.size w u5 ∧ Five u5 (w.heap.size + 1) (.int .i64 1) (.int .i64 n) (.int .i64 0) (.int .i64 0) (.slice none 0 0)) := ⟨G2.trans (B5.mono (by omega)), F5⟩
  obtain ⟨z0, z1, z2, z3, z4, zf⟩ := id Z2
  have zf0 := zf 0
  have zf1 := zf 1
  have zf2 := zf 2
  have zf3 := zf 3
  have zf4 := zf 4
  clear hu5 F5 N5 B5 zf Z2 Z1 Z0 F0 g1 g2 G0 G1 G2
  go_wp2
  rw [HU5.out]
  obtain ⟨r0, r1, r2, r3, r4, _⟩ := HB.out.2
  exact bodyPost_ret (v := .agg #[.int .i64 1, .int .i64 n, .int .i64 0, .int .i64 0, .slice none 0 0]) (by simp [results, Tryz.results63, go_sem, r0, r1, r2, r3, r4]) rfl ⟨rfl, HB.out.1⟩
end Go.Proofs.YtkeockippmmneaaGreat
