/-
  A region that draws its order, walked once for each operation and not once for each order: what each operation leaves in its slot is said by a predicate that later steps do not spoil.
-/
import Derived.Test.YtkeockippmmneaaGreatKit
import Derived.RegionTactic
namespace Go.Proofs.YtkeockippmmneaaGreat
open Go.RowKit

/-- What an operation's slot holds. -/
def slotOf (o : Oper) (a : Act) : Value := match o.dst with | some d => a.tmps.getD d undef | none => undef

/-- Every edge leads back to an operation that stands ahead in the text. -/
def backB (ops : Array Oper) : Bool := (List.range ops.size).all fun i => ((ops[i]?).map fun o => o.after.all fun e => decide (e.on < i)).getD true

/-- No two operations write one slot. -/
def ownSlotsB (ops : Array Oper) : Bool :=
  (List.range ops.size).all fun i => (List.range ops.size).all fun j => i == j || (match (ops[i]?).bind (·.dst), (ops[j]?).bind (·.dst) with | some x, some y => x != y | _, _ => true)

theorem ownSlots {ops : Array Oper} (h : ownSlotsB ops = true) {i j : Nat} {oi oj : Oper} (hi : ops[i]? = some oi) (hj : ops[j]? = some oj) (hne : i ≠ j) {d : Tmp} (hd : oi.dst = some d) : oj.dst ≠ some d := by
  intro hd'
  have li : i < ops.size := (Array.getElem?_eq_some_iff.mp hi).1
  have lj : j < ops.size := (Array.getElem?_eq_some_iff.mp hj).1
  have h1 := List.all_eq_true.mp (List.all_eq_true.mp h i (List.mem_range.mpr li)) j (List.mem_range.mpr lj)
  simp [hi, hj, hd, hd', hne] at h1

theorem back_of {ops : Array Oper} (h : backB ops = true) {i : Nat} {o : Oper} (hi : ops[i]? = some o) {e : Edge} (he : e ∈ o.after) : e.on < i := by
  have li : i < ops.size := (Array.getElem?_eq_some_iff.mp hi).1
  have h1 := List.all_eq_true.mp h i (List.mem_range.mpr li)
  simp only [hi, Option.map_some, Option.getD_some] at h1
  have := Array.all_eq_true'.mp h1 e he
  simpa using this

/-- Slots that the region does not write are as they were. -/
structure Frames (ops : Array Oper) (a0 a : Act) : Prop where
  size : a.tmps.size = a0.tmps.size
  defers : a.defers = a0.defers
  other : ∀ t, (∀ (j : Nat) (o : Oper), ops[j]? = some o → o.dst ≠ some t) → a.tmps.getD t undef = a0.tmps.getD t undef

/-- The region does not write this slot. -/
def noSlotB (ops : Array Oper) (t : Tmp) : Bool := ops.toList.all fun o => match o.dst with | some d => d != t | none => true

theorem Frames.at_ {ops : Array Oper} {a0 a : Act} (h : Frames ops a0 a) (t : Tmp) (hn : noSlotB ops t = true) : a.tmps.getD t undef = a0.tmps.getD t undef :=
  h.other t fun j o hj hd => by
    have hm : o ∈ ops.toList := by rw [Array.mem_toList_iff]; exact Array.mem_of_getElem? hj
    have := List.all_eq_true.mp hn o hm
    simp [hd] at this

theorem getD_put_ne (a : Act) (d t : Tmp) (v : Value) (h : d ≠ t) : (a.put (some d) v).tmps.getD t undef = a.tmps.getD t undef := by
  show (a.tmps.setIfInBounds d v).getD t undef = _
  simp [h]

theorem Frames.put {ops : Array Oper} {a0 a : Act} (h : Frames ops a0 a) {i : Nat} {o : Oper} (hi : ops[i]? = some o) (v : Value) : Frames ops a0 (a.put o.dst v) := by
  cases hd : o.dst with
  | none => exact h
  | some d =>
    refine ⟨?_, h.defers, fun t ht => ?_⟩
    · show (a.tmps.setIfInBounds d v).size = _; simp [h.size]
    · rw [getD_put_ne _ _ _ _ (fun e => ht i o hi (by rw [hd, e]))]; exact h.other t ht

theorem slotOf_put {ops : Array Oper} (hown : ownSlotsB ops = true) {a : Act} {i j : Nat} {oi oj : Oper} (hi : ops[i]? = some oi) (hj : ops[j]? = some oj) (hne : i ≠ j) (v : Value) : slotOf oj (a.put oi.dst v) = slotOf oj a := by
  cases hd : oi.dst with
  | none => rfl
  | some d =>
    have h1 := ownSlots hown hi hj hne hd
    unfold slotOf
    cases hd' : oj.dst with
    | none => rfl
    | some d' => exact getD_put_ne _ _ _ _ (fun e => h1 (by rw [hd', e]))

theorem count_set : ∀ (l : List Bool) (i : Nat), l[i]? = some false → (l.set i true).countP (fun b => !b) + 1 = l.countP (fun b => !b)
  | [], i, h => by simp at h
  | b :: l, 0, h => by simp at h; subst h; simp
  | b :: l, i + 1, h => by
    have := count_set l i (by simpa using h)
    simp only [List.set_cons_succ, List.countP_cons]
    omega

/-- How many are not listed yet. -/
def unlisted (L : Array Bool) : Nat := L.toList.countP fun b => !b

theorem unlisted_set {L : Array Bool} {i : Nat} (h : L.getD i true = false) : unlisted (L.setIfInBounds i true) + 1 = unlisted L := by
  have hi : i < L.size := by
    rcases Nat.lt_or_ge i L.size with h' | h'
    · exact h'
    · simp [Array.getElem?_eq_none h'] at h
  unfold unlisted
  rw [Array.toList_setIfInBounds]
  exact count_set _ _ (by simp [hi] at h ⊢; exact h)

theorem unlisted_zero {L : Array Bool} (h : unlisted L = 0) (i : Nat) : L.getD i true = true := by
  unfold unlisted at h
  rw [List.countP_eq_zero] at h
  rcases Nat.lt_or_ge i L.size with h' | h'
  · have := h L[i] (by simp)
    simp [h'] at this ⊢
    exact this
  · simp [Array.getElem?_eq_none h']

section
variable {P : Program} {ops : Array Oper} {Q : Exit → Act → World → Prop}

/-- Where nothing is ready, all are listed: edges lead back. -/
theorem all_listed (hback : backB ops = true) {L : Array Bool} (hsz : L.size = ops.size) (h : Region.ready .any ops L = []) : ∀ n i, i < n → L.getD i true = true := by
  intro n
  induction n with
  | zero => intro i hi; omega
  | succ n ih =>
    intro i hi
    by_cases hlt : i < n
    · exact ih i hlt
    obtain rfl : i = n := by omega
    rcases Nat.lt_or_ge i ops.size with h' | h'
    · cases hL : L.getD i true with
      | true => rfl
      | false =>
        have hmem : i ∈ Region.ready .any ops L := by
          unfold Region.ready
          rw [List.mem_filter]
          refine ⟨List.mem_range.mpr h', ?_⟩
          obtain ⟨o, ho⟩ : ∃ o, ops[i]? = some o := ⟨ops[i], Array.getElem?_eq_getElem h'⟩
          simp only [hL, ho, Option.map_some, Option.getD_some, Bool.not_false, Bool.true_and]
          rw [Array.all_eq_true']
          intro e he
          have hlt' := back_of hback ho he
          have := ih e.on hlt'
          have hsz' : e.on < L.size := by omega
          simp [hsz'] at this ⊢
          exact .inr this
        rw [h] at hmem
        cases hmem
    · simp [Array.getElem?_eq_none (show L.size ≤ i by omega)]

variable {a0 : Act} {w0 : World} {R : World → World → Prop} {Φ : Nat → Value → World → Prop} {J : Array Bool → Act → World → Prop}

/-- A region that draws its order: each operation is walked once. R: how the world may go on; Φ: what each slot holds, which R does not spoil; J: what holds of several slots together. -/
theorem wp_region_dagJ {id : Nat} (hm : P.follows .mixedOrders = true) (hback : backB ops = true) (hown : ownSlotsB ops = true)
    (hR0 : R w0.drew w0.drew) (hRt : ∀ a b c, R a b → R b c → R a c)
    (stab : ∀ j v w w', R w w' → Φ j v w → Φ j v w')
    (hJ0 : J (Array.replicate ops.size false) a0 w0.drew)
    (step : ∀ (i : Nat) (o : Oper), ops[i]? = some o → ∀ (L : Array Bool) (a : Act) (w : World), Frames ops a0 a → R w0.drew w → L.size = ops.size → L.getD i true = false →
      (∀ (j : Nat) (oj : Oper), ops[j]? = some oj → L.getD j true = true → Φ j (slotOf oj a) w) →
      (∀ e ∈ o.after, Region.binds .any e = true → L.getD e.on true = true) → J L a w →
      ∀ K' : Act → World → Prop, (∀ v w', R w w' → Φ i (slotOf o (a.put o.dst v)) w' → J (L.setIfInBounds i true) (a.put o.dst v) w' → K' (a.put o.dst v) w') →
        if Region.wanted o (yielded ops a.tmps) = true then Oper.wp P o a w K' Q else K' (a.put o.dst undef) w)
    (fin : ∀ (L : Array Bool) (a : Act) (w : World), Frames ops a0 a → R w0.drew w → (∀ (j : Nat) (oj : Oper), ops[j]? = some oj → L.getD j true = true ∧ Φ j (slotOf oj a) w) → J L a w → Q .normal a w) :
    (Code.region id ops true).wp P Q a0 w0 := by
  refine wp_region_any hm ?_
  have main : ∀ (fuel : Nat) (L : Array Bool) (a : Act) (w : World), L.size = ops.size → unlisted L ≤ fuel → Frames ops a0 a → R w0.drew w →
      (∀ (j : Nat) (oj : Oper), ops[j]? = some oj → L.getD j true = true → Φ j (slotOf oj a) w) → J L a w → wpAny P .any ops Q fuel L a w := by
    intro fuel
    induction fuel with
    | zero =>
      intro L a w hsz hu hf hr hp hj
      have hz := unlisted_zero (L := L) (by omega)
      refine ⟨?_, fin L a w hf hr (fun j oj hj => ⟨hz j, hp j oj hj (hz j)⟩) hj⟩
      rw [List.eq_nil_iff_forall_not_mem]
      intro i hi
      have := (mem_ready.1 hi).1
      rw [hz i] at this; cases this
    | succ fuel ih =>
      intro L a w hsz hu hf hr hp hj
      refine ⟨fun hn => fin L a w hf hr (fun j oj hj => ⟨all_listed hback hsz hn (j + 1) j (by omega), hp j oj hj (all_listed hback hsz hn (j + 1) j (by omega))⟩) hj, fun i hi => ?_⟩
      obtain ⟨hL, o, ho, hall⟩ := mem_ready.1 hi
      refine wpOp_step ho fun K' hK' => step i o ho L a w hf hr hsz hL hp (fun e he hb => ?_) hj K' fun v w' hr' hphi hj' => hK' _ _ (ih _ _ _ (by simp [hsz]) (by have := unlisted_set hL; omega) (hf.put ho v) (hRt _ _ _ hr hr') ?_ hj')
      · have := hall e he hb
        rcases Nat.lt_or_ge e.on L.size with h' | h'
        · simp [h'] at this ⊢; exact this
        · simp [Array.getElem?_eq_none h']
      · intro j oj hj hl
        by_cases e : i = j
        · subst e
          rw [ho] at hj; cases hj
          exact hphi
        · rw [slotOf_put hown ho hj e]
          rw [getD_set_ne true e] at hl
          exact stab j _ w w' hr' (hp j oj hj hl)
  exact main ops.size _ a0 _ (by simp) (by simp [unlisted, List.countP_replicate]) ⟨rfl, rfl, fun _ _ => rfl⟩ hR0 (by
    intro j oj hj hl
    have hjl : j < ops.size := (Array.getElem?_eq_some_iff.mp hj).1
    simp [hjl] at hl) hJ0

/-- .. where nothing is to be said of several slots together. -/
theorem wp_region_dag {id : Nat} (hm : P.follows .mixedOrders = true) (hback : backB ops = true) (hown : ownSlotsB ops = true)
    (hR0 : R w0.drew w0.drew) (hRt : ∀ a b c, R a b → R b c → R a c)
    (stab : ∀ j v w w', R w w' → Φ j v w → Φ j v w')
    (step : ∀ (i : Nat) (o : Oper), ops[i]? = some o → ∀ (a : Act) (w : World), Frames ops a0 a → R w0.drew w →
      (∀ e ∈ o.after, Region.binds .any e = true → ∀ oj, ops[e.on]? = some oj → Φ e.on (slotOf oj a) w) →
      ∀ K' : Act → World → Prop, (∀ v w', R w w' → Φ i (slotOf o (a.put o.dst v)) w' → K' (a.put o.dst v) w') →
        if Region.wanted o (yielded ops a.tmps) = true then Oper.wp P o a w K' Q else K' (a.put o.dst undef) w)
    (fin : ∀ (a : Act) (w : World), Frames ops a0 a → R w0.drew w → (∀ (j : Nat) (oj : Oper), ops[j]? = some oj → Φ j (slotOf oj a) w) → Q .normal a w) :
    (Code.region id ops true).wp P Q a0 w0 :=
  wp_region_dagJ (J := fun _ _ _ => True) hm hback hown hR0 hRt stab trivial
    (fun i o ho _ a w hf hr _ _ hp he _ K' hK' => step i o ho a w hf hr (fun e h1 h2 oj hoj => hp _ oj hoj (he e h1 h2)) K' fun v w' h1 h2 => hK' v w' h1 h2 trivial)
    (fun _ a w hf hr hp _ => fin a w hf hr fun j oj hj => (hp j oj hj).2)
end

/-- A frame, slot by slot. -/
theorem act_lit (a : Act) (n : Nat) (h : a.tmps.size = n) : ∃ f : Nat → Value, a = ⟨((List.range n).map f).toArray, a.defers⟩ ∧ ∀ i, f i = a.tmps.getD i undef := by
  refine ⟨fun i => a.tmps.getD i undef, ?_, fun _ => rfl⟩
  obtain ⟨tm, df⟩ := a
  simp only at h ⊢
  congr 1
  apply Array.ext
  · simp [h]
  · intro i h1 h2
    simp [h1]

section
variable {P : Program} {ops : Array Oper} {Q : Exit → Act → World → Prop} {a0 : Act} {w0 : World} {R : World → World → Prop} {Φ : Nat → Value → World → Prop} {J : Array Bool → Act → World → Prop}

/-- The last operation waits for all others. -/
def lastB (ops : Array Oper) (n : Nat) : Bool := (List.range n).all fun j => ((ops[n]?).map fun o => o.after.any fun e => Region.binds .any e && e.on == j).getD false

theorem last_of {n : Nat} (h : lastB ops n = true) {o : Oper} (ho : ops[n]? = some o) {j : Nat} (hj : j < n) : ∃ e ∈ o.after, Region.binds .any e = true ∧ e.on = j := by
  have h1 := List.all_eq_true.mp h j (List.mem_range.mpr hj)
  simp only [ho, Option.map_some, Option.getD_some] at h1
  obtain ⟨e, he, h2⟩ := Array.any_eq_true'.mp h1
  simp at h2
  exact ⟨e, he, h2.1, h2.2⟩

/-- A region whose last operation waits for all others: the others are walked once each, in whatever order; then the last. -/
theorem wp_region_last {id : Nat} (n : Nat) (on : Oper) (hn : ops.size = n + 1) (hon : ops[n]? = some on) (hlast : lastB ops n = true)
    (hm : P.follows .mixedOrders = true) (hback : backB ops = true) (hown : ownSlotsB ops = true)
    (hR0 : R w0.drew w0.drew) (hRt : ∀ a b c, R a b → R b c → R a c)
    (stab : ∀ j v w w', R w w' → Φ j v w → Φ j v w')
    (hJ0 : J (Array.replicate ops.size false) a0 w0.drew)
    (step : ∀ (i : Nat) (o : Oper), ops[i]? = some o → i < n → ∀ (L : Array Bool) (a : Act) (w : World), Frames ops a0 a → R w0.drew w → L.size = ops.size → L.getD i true = false →
      (∀ (j : Nat) (oj : Oper), ops[j]? = some oj → L.getD j true = true → Φ j (slotOf oj a) w) →
      (∀ e ∈ o.after, Region.binds .any e = true → L.getD e.on true = true) → J L a w →
      ∀ K' : Act → World → Prop, (∀ v w', R w w' → Φ i (slotOf o (a.put o.dst v)) w' → J (L.setIfInBounds i true) (a.put o.dst v) w' → K' (a.put o.dst v) w') →
        if Region.wanted o (yielded ops a.tmps) = true then Oper.wp P o a w K' Q else K' (a.put o.dst undef) w)
    (fin : ∀ (L : Array Bool) (a : Act) (w : World), Frames ops a0 a → R w0.drew w → (∀ (j : Nat) (oj : Oper), j < n → ops[j]? = some oj → L.getD j true = true ∧ Φ j (slotOf oj a) w) → J L a w →
      ∀ K' : Act → World → Prop, (∀ a' w', Q .normal a' w' → K' a' w') → if Region.wanted on (yielded ops a.tmps) = true then Oper.wp P on a w K' Q else K' (a.put on.dst undef) w) :
    (Code.region id ops true).wp P Q a0 w0 := by
  refine wp_region_any hm ?_
  have main : ∀ (fuel : Nat) (L : Array Bool) (a : Act) (w : World), L.size = ops.size → unlisted L ≤ fuel → L.getD n true = false → Frames ops a0 a → R w0.drew w →
      (∀ (j : Nat) (oj : Oper), ops[j]? = some oj → L.getD j true = true → Φ j (slotOf oj a) w) → J L a w → wpAny P .any ops Q fuel L a w := by
    intro fuel
    induction fuel with
    | zero =>
      intro L a w hsz hu hnl hf hr hp hj
      have hz := unlisted_zero (L := L) (by omega) n
      rw [hnl] at hz; cases hz
    | succ fuel ih =>
      intro L a w hsz hu hnl hf hr hp hj
      refine ⟨fun hne => ?_, fun i hi => ?_⟩
      · have := all_listed hback hsz hne (n + 1) n (by omega)
        rw [hnl] at this; cases this
      obtain ⟨hL, o, ho, hall⟩ := mem_ready.1 hi
      have hafter : ∀ e ∈ o.after, Region.binds .any e = true → L.getD e.on true = true := fun e he hb => by
        have := hall e he hb
        rcases Nat.lt_or_ge e.on L.size with h' | h'
        · simp [h'] at this ⊢; exact this
        · simp [Array.getElem?_eq_none h']
      have hilt : i < n + 1 := by rw [← hn]; exact (Array.getElem?_eq_some_iff.mp ho).1
      by_cases hin : i = n
      · subst hin
        rw [hon] at ho; cases ho
        refine wpOp_step hon fun K' hK' => fin L a w hf hr (fun j oj hjn hj => ?_) hj K' fun a' w' hq => hK' _ _ ?_
        · obtain ⟨e, he, hb, rfl⟩ := last_of hlast hon hjn
          exact ⟨hafter e he hb, hp _ oj hj (hafter e he hb)⟩
        · have hall' : Region.ready .any ops (L.setIfInBounds i true) = [] := by
            rw [List.eq_nil_iff_forall_not_mem]
            intro k hk
            obtain ⟨hk1, ok, hok, _⟩ := mem_ready.1 hk
            have hkl : k < i + 1 := by rw [← hn]; exact (Array.getElem?_eq_some_iff.mp hok).1
            by_cases e : i = k
            · subst e
              have hil : i < L.size := by omega
              simp [hil] at hk1
            · rw [getD_set_ne true e] at hk1
              obtain ⟨e', he, hb, rfl⟩ := last_of hlast hon (show k < i by omega)
              rw [hafter e' he hb] at hk1; cases hk1
          cases fuel with
          | zero => exact ⟨hall', hq⟩
          | succ fuel => exact ⟨fun _ => hq, fun k hk => by rw [hall'] at hk; cases hk⟩
      · refine wpOp_step ho fun K' hK' => step i o ho (by omega) L a w hf hr hsz hL hp hafter hj K' fun v w' hr' hphi hj' => hK' _ _ (ih _ _ _ (by simp [hsz]) (by have := unlisted_set hL; omega) (by rw [getD_set_ne true hin]; exact hnl) (hf.put ho v) (hRt _ _ _ hr hr') ?_ hj')
        intro j oj hj hl
        by_cases e : i = j
        · subst e
          rw [ho] at hj; cases hj
          exact hphi
        · rw [slotOf_put hown ho hj e]
          rw [getD_set_ne true e] at hl
          exact stab j _ w w' hr' (hp j oj hj hl)
  exact main ops.size _ a0 _ (by simp) (by simp [unlisted, List.countP_replicate]) (by simp [hn]) ⟨rfl, rfl, fun _ _ => rfl⟩ hR0 (by
    intro j oj hj hl
    have hjl : j < ops.size := (Array.getElem?_eq_some_iff.mp hj).1
    simp [hjl] at hl) hJ0
end

/-- The world goes on: new blocks alone. -/
abbrev Grow (u u' : World) : Prop := Below u.heap.size u u'

theorem grow_trans (a b c : World) (h : Grow a b) (k : Grow b c) : Grow a c := below_two h k

/-- A variable's cells are there, and may be written. -/
def Zero (n : Nat) (u : World) (B : Nat) : Prop := ∀ k, k < n → (u.cell? ⟨B, k, none⟩).isSome = true ∧ u.frozen? ⟨B, k, none⟩ = false

theorem Zero.grow {n : Nat} {u u' : World} {B : Nat} (h : Zero n u B) (hg : Grow u u') (hB : B < u.heap.size) : Zero n u' B := fun k hk => by
  rw [hg.cell (p := ⟨B, k, none⟩) hB, hg.frozen (p := ⟨B, k, none⟩) hB]; exact h k hk

/-- What holds of a new variable and of what will be stored there. -/
structure VarJ (Own : World → Nat → Nat → Value → Prop) (n0 nc iA iC : Nat) (p r : Tmp) (L : Array Bool) (a : Act) (u : World) : Prop where
  al : L.getD iA true = true → ∃ B, a.tmps.getD p undef = .pointer (some ⟨B, 0, none⟩) ∧ n0 ≤ B ∧ B < u.heap.size ∧ Zero nc u B
  cl : L.getD iC true = true → ∃ lo hi, Own u lo hi (a.tmps.getD r undef) ∧ n0 ≤ lo ∧ hi ≤ u.heap.size ∧
    (L.getD iA true = true → ∀ B, a.tmps.getD p undef = .pointer (some ⟨B, 0, none⟩) → B < lo ∨ hi ≤ B)

section
variable {P : Program} {ops : Array Oper} {Q : Exit → Act → World → Prop} {a0 : Act} {w0 : World} {Φ : Nat → Value → World → Prop} {Own : World → Nat → Nat → Value → Prop}

theorem getD_set_self' {L : Array Bool} {i : Nat} (h : i < L.size) : (L.setIfInBounds i true).getD i true = true := by simp [h]

theorem getD_put_self (a : Act) (d : Tmp) (v : Value) (h : d < a.tmps.size) : (a.put (some d) v).tmps.getD d undef = v := by
  show (a.tmps.setIfInBounds d v).getD d undef = v
  simp [h]

/-- 'x := f(..)' where x is a variable in memory: a region that draws its order, its last operation the store. iA: the variable is made; iC: the call whose answer is stored. -/
theorem wp_region_var {id : Nat} (n iA iC : Nat) (on oA oC : Oper) (p r : Tmp) (nc : Nat) (hn : ops.size = n + 1) (hon : ops[n]? = some on) (hlast : lastB ops n = true)
    (hA : ops[iA]? = some oA) (hC : ops[iC]? = some oC) (hAp : oA.dst = some p) (hCr : oC.dst = some r) (hAC : iA ≠ iC) (hpr : p ≠ r) (hAn : iA < n) (hCn : iC < n) (hps : p < a0.tmps.size) (hrs : r < a0.tmps.size)
    (hm : P.follows .mixedOrders = true) (hback : backB ops = true) (hown : ownSlotsB ops = true)
    (ownKept : ∀ u u' lo hi v, (∀ k, lo ≤ k → k < hi → u'.heap[k]? = u.heap[k]?) → Own u lo hi v → Own u' lo hi v)
    (stab : ∀ j v w w', Grow w w' → Φ j v w → Φ j v w')
    (step : ∀ (i : Nat) (o : Oper), ops[i]? = some o → i < n → i ≠ iA → i ≠ iC → ∀ (a : Act) (u : World), Frames ops a0 a → Grow w0 u →
      (∀ e ∈ o.after, Region.binds .any e = true → ∀ oj, ops[e.on]? = some oj → Φ e.on (slotOf oj a) u) →
      ∀ K' : Act → World → Prop, (∀ v u', Grow u u' → Φ i (slotOf o (a.put o.dst v)) u' → K' (a.put o.dst v) u') →
        if Region.wanted o (yielded ops a.tmps) = true then Oper.wp P o a u K' Q else K' (a.put o.dst undef) u)
    (stepA : ∀ (a : Act) (u : World), Frames ops a0 a → ∀ K' : Act → World → Prop, (∀ u', Grow u u' → u.heap.size < u'.heap.size → Zero nc u' u.heap.size → K' (a.put oA.dst (.pointer (some ⟨u.heap.size, 0, none⟩))) u') →
        if Region.wanted oA (yielded ops a.tmps) = true then Oper.wp P oA a u K' Q else K' (a.put oA.dst undef) u)
    (stepC : ∀ (a : Act) (u : World), Frames ops a0 a → Grow w0 u →
      (∀ e ∈ oC.after, Region.binds .any e = true → ∀ oj, ops[e.on]? = some oj → Φ e.on (slotOf oj a) u) →
      ∀ K' : Act → World → Prop, (∀ v u', Grow u u' → Own u' u.heap.size u'.heap.size v → K' (a.put oC.dst v) u') →
        if Region.wanted oC (yielded ops a.tmps) = true then Oper.wp P oC a u K' Q else K' (a.put oC.dst undef) u)
    (hΦA : ∀ v u, Φ iA v u) (hΦC : ∀ v u, Φ iC v u)
    (fin : ∀ (a : Act) (u : World) (B lo hi : Nat), Frames ops a0 a → Grow w0 u → a.tmps.getD p undef = .pointer (some ⟨B, 0, none⟩) → w0.heap.size ≤ B → B < u.heap.size → Zero nc u B →
      Own u lo hi (a.tmps.getD r undef) → w0.heap.size ≤ lo → hi ≤ u.heap.size → (B < lo ∨ hi ≤ B) → (∀ (j : Nat) (oj : Oper), j < n → ops[j]? = some oj → Φ j (slotOf oj a) u) →
      ∀ K' : Act → World → Prop, (∀ a' w', Q .normal a' w' → K' a' w') → if Region.wanted on (yielded ops a.tmps) = true then Oper.wp P on a u K' Q else K' (a.put on.dst undef) u) :
    (Code.region id ops true).wp P Q a0 w0 := by
  have hg0 : ∀ u, Grow w0.drew u → Grow w0 u := fun u h => (Below.drew (Below.refl _ _)).trans h
  refine wp_region_last (R := Grow) (Φ := Φ) (J := VarJ Own w0.heap.size nc iA iC p r) n on hn hon hlast hm hback hown (Below.refl _ _) grow_trans stab ?_ ?_ ?_
  · have h1 : (Array.replicate ops.size false).getD iA true = false := by simp [hn, show iA < n + 1 by omega]
    have h2 : (Array.replicate ops.size false).getD iC true = false := by simp [hn, show iC < n + 1 by omega]
    refine ⟨fun h => ?_, fun h => ?_⟩
    · rw [h1] at h; cases h
    · rw [h2] at h; cases h
  · intro i o ho hin L a u hf hr hsz hL hp he hj K' hK
    have hus : w0.heap.size ≤ u.heap.size := hr.size
    by_cases eA : i = iA
    · subst eA
      rw [hA] at ho; cases ho
      refine stepA a u hf K' fun u' hg hlt hz => hK _ _ hg (hΦA _ _) ⟨fun _ => ⟨u.heap.size, ?_, hus, hlt, hz⟩, fun hc => ?_⟩
      · rw [hAp]; exact getD_put_self _ _ _ (by rw [hf.size]; exact hps)
      · rw [getD_set_ne true hAC] at hc
        obtain ⟨lo, hi, ho, h1, h2, _⟩ := hj.cl hc
        rw [hAp, getD_put_ne _ _ _ _ hpr]
        refine ⟨lo, hi, ownKept _ _ _ _ _ (fun k _ h4 => hg.block k (by omega)) ho, h1, Nat.le_trans h2 hg.size, fun _ B hB => ?_⟩
        rw [getD_put_self _ _ _ (by rw [hf.size]; exact hps)] at hB
        have : u.heap.size = B := by simpa using hB
        omega
    · by_cases eC : i = iC
      · subst eC
        rw [hC] at ho; cases ho
        refine stepC a u hf (hg0 u hr) (fun e h1 h2 oj hoj => hp _ oj hoj (he e h1 h2)) K' fun v u' hg hown' => hK _ _ hg (hΦC _ _) ⟨fun ha => ?_, fun _ => ⟨u.heap.size, u'.heap.size, ?_, hus, Nat.le_refl _, fun ha B hB => ?_⟩⟩
        · rw [getD_set_ne true (Ne.symm hAC)] at ha
          obtain ⟨B, h1, h2, h3, h4⟩ := hj.al ha
          refine ⟨B, ?_, h2, Nat.lt_of_lt_of_le h3 hg.size, h4.grow hg h3⟩
          rw [hCr, getD_put_ne _ _ _ _ (Ne.symm hpr)]; exact h1
        · rw [hCr, getD_put_self _ _ _ (by rw [hf.size]; exact hrs)]; exact hown'
        · rw [getD_set_ne true (Ne.symm hAC)] at ha
          obtain ⟨B', h1, h2, h3, h4⟩ := hj.al ha
          rw [hCr, getD_put_ne _ _ _ _ (Ne.symm hpr), h1] at hB
          have : B' = B := by simpa using hB
          omega
      · refine step i o ho hin eA eC a u hf (hg0 u hr) (fun e h1 h2 oj hoj => hp _ oj hoj (he e h1 h2)) K' fun v u' hg hphi => hK v u' hg hphi ?_
        have hsp : ∀ t, (∃ j oj, ops[j]? = some oj ∧ oj.dst = some t ∧ i ≠ j) → (a.put o.dst v).tmps.getD t undef = a.tmps.getD t undef := by
          rintro t ⟨j, oj, hj, hd, hne⟩
          cases hdo : o.dst with
          | none => rfl
          | some d => exact getD_put_ne _ _ _ _ (fun e => ownSlots hown ho hj hne hdo (by rw [hd, e]))
        have e1 := hsp p ⟨iA, oA, hA, hAp, eA⟩
        have e2 := hsp r ⟨iC, oC, hC, hCr, eC⟩
        refine ⟨fun ha => ?_, fun hc => ?_⟩
        · rw [getD_set_ne true eA] at ha
          obtain ⟨B, h1, h2, h3, h4⟩ := hj.al ha
          exact ⟨B, by rw [e1]; exact h1, h2, Nat.lt_of_lt_of_le h3 hg.size, h4.grow hg h3⟩
        · rw [getD_set_ne true eC] at hc
          obtain ⟨lo, hi, h1, h2, h3, h4⟩ := hj.cl hc
          refine ⟨lo, hi, by rw [e2]; exact ownKept _ _ _ _ _ (fun k _ h5 => hg.block k (by omega)) h1, h2, Nat.le_trans h3 hg.size, fun ha B hB => ?_⟩
          rw [getD_set_ne true eA] at ha
          rw [e1] at hB
          exact h4 ha B hB
  · intro L a u hf hr hp hj K' hK
    have lA := (hp iA oA hAn hA).1
    have lC := (hp iC oC hCn hC).1
    obtain ⟨B, h1, h2, h3, h4⟩ := hj.al lA
    obtain ⟨lo, hi, g1, g2, g3, g4⟩ := hj.cl lC
    exact fin a u B lo hi hf (hg0 u hr) h1 h2 h3 h4 g1 g2 g3 (g4 lA B h1) (fun j oj h5 h6 => (hp j oj h5 h6).2) K' hK
end
end Go.Proofs.YtkeockippmmneaaGreat
