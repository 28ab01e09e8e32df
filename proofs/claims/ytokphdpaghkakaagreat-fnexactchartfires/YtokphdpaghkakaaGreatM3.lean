import Derived.Test.YtokphdpaghkakaaGreatM1
import Derived.RegionTactic
import Derived.Test.YtokphdpaghkakaaGreatM2
import Derived.Deep.RegionLawGrows
import Derived.Deep.Upon
import Derived.Maps.AppendAt
import Derived.Deep.AppendLies

/-
  A region that draws its order, walked once for each operation and not once for each order: what each operation leaves in its slot is said by a predicate that later steps do not spoil.
-/
namespace Go.Proofs.YtokphdpaghkakaaGreat
open Go.RowKit

/-- What an operation's slot holds. -/
def slotOf (o : Oper) (a : Act) : Value := match o.dst with | some d => a.tmps.getD d undef | none => undef

/-- Every edge leads back to an operation that stands ahead in the text. -/
def backB (ops : Array Oper) : Bool := (List.range ops.size).all fun i => ((ops[i]?).map fun o => o.after.all fun e => decide (e.on < i)).getD true

/-- No two operations write one slot. -/
def ownSlotsB (ops : Array Oper) : Bool :=
  (List.range ops.size).all fun i => (List.range ops.size).all fun j => i == j || (match (ops[i]?).bind (·.dst), (ops[j]?).bind (·.dst) with | some x, some y => x != y | _, _ => true)

theorem ownSlots {ops : Array Oper} (h : ownSlotsB ops = true) {i j : Nat} {oi oj : Oper} (hi : ops[i]? = some oi) (hj : ops[j]? = some oj) (hne : i ≠ j) {d : Tmp} (hd : oi.dst = some d) : oj.dst ≠ some d := by
  intro hd'
  have li : i < ops.size := (Array.getElem?_eq_some_iff.mp hi).1
  have lj : j < ops.size := (Array.getElem?_eq_some_iff.mp hj).1
  have h1 := List.all_eq_true.mp (List.all_eq_true.mp h i (List.mem_range.mpr li)) j (List.mem_range.mpr lj)
  simp [hi, hj, hd, hd', hne] at h1

theorem back_of {ops : Array Oper} (h : backB ops = true) {i : Nat} {o : Oper} (hi : ops[i]? = some o) {e : Edge} (he : e ∈ o.after) : e.on < i := by
  have li : i < ops.size := (Array.getElem?_eq_some_iff.mp hi).1
  have h1 := List.all_eq_true.mp h i (List.mem_range.mpr li)
  simp only [hi, Option.map_some, Option.getD_some] at h1
  have := Array.all_eq_true'.mp h1 e he
  simpa using this

/-- Slots that the region does not write are as they were. -/
structure Frames (ops : Array Oper) (a0 a : Act) : Prop where
  size : a.tmps.size = a0.tmps.size
  defers : a.defers = a0.defers
  other : ∀ t, (∀ (j : Nat) (o : Oper), ops[j]? = some o → o.dst ≠ some t) → a.tmps.getD t undef = a0.tmps.getD t undef

/-- The region does not write this slot. -/
def noSlotB (ops : Array Oper) (t : Tmp) : Bool := ops.toList.all fun o => match o.dst with | some d => d != t | none => true

theorem Frames.at_ {ops : Array Oper} {a0 a : Act} (h : Frames ops a0 a) (t : Tmp) (hn : noSlotB ops t = true) : a.tmps.getD t undef = a0.tmps.getD t undef :=
  h.other t fun j o hj hd => by
    have hm : o ∈ ops.toList := by rw [Array.mem_toList_iff]; exact Array.mem_of_getElem? hj
    have := List.all_eq_true.mp hn o hm
    simp [hd] at this

theorem getD_put_ne (a : Act) (d t : Tmp) (v : Value) (h : d ≠ t) : (a.put (some d) v).tmps.getD t undef = a.tmps.getD t undef := by
  show (a.tmps.setIfInBounds d v).getD t undef = _
  simp [h]

theorem Frames.put {ops : Array Oper} {a0 a : Act} (h : Frames ops a0 a) {i : Nat} {o : Oper} (hi : ops[i]? = some o) (v : Value) : Frames ops a0 (a.put o.dst v) := by
  cases hd : o.dst with
  | none => exact h
  | some d =>
    refine ⟨?_, h.defers, fun t ht => ?_⟩
    · show (a.tmps.setIfInBounds d v).size = _; simp [h.size]
    · rw [getD_put_ne _ _ _ _ (fun e => ht i o hi (by rw [hd, e]))]; exact h.other t ht

theorem slotOf_put {ops : Array Oper} (hown : ownSlotsB ops = true) {a : Act} {i j : Nat} {oi oj : Oper} (hi : ops[i]? = some oi) (hj : ops[j]? = some oj) (hne : i ≠ j) (v : Value) : slotOf oj (a.put oi.dst v) = slotOf oj a := by
  cases hd : oi.dst with
  | none => rfl
  | some d =>
    have h1 := ownSlots hown hi hj hne hd
    unfold slotOf
    cases hd' : oj.dst with
    | none => rfl
    | some d' => exact getD_put_ne _ _ _ _ (fun e => h1 (by rw [hd', e]))

theorem count_set : ∀ (l : List Bool) (i : Nat), l[i]? = some false → (l.set i true).countP (fun b => !b) + 1 = l.countP (fun b => !b)
  | [], i, h => by simp at h
  | b :: l, 0, h => by simp at h; subst h; simp
  | b :: l, i + 1, h => by
    have := count_set l i (by simpa using h)
    simp only [List.set_cons_succ, List.countP_cons]
    omega

/-- How many are not listed yet. -/
def unlisted (L : Array Bool) : Nat := L.toList.countP fun b => !b

theorem unlisted_set {L : Array Bool} {i : Nat} (h : L.getD i true = false) : unlisted (L.setIfInBounds i true) + 1 = unlisted L := by
  have hi : i < L.size := by
    rcases Nat.lt_or_ge i L.size with h' | h'
    · exact h'
    · simp [Array.getElem?_eq_none h'] at h
  unfold unlisted
  rw [Array.toList_setIfInBounds]
  exact count_set _ _ (by simp [hi] at h ⊢; exact h)

theorem unlisted_zero {L : Array Bool} (h : unlisted L = 0) (i : Nat) : L.getD i true = true := by
  unfold unlisted at h
  rw [List.countP_eq_zero] at h
  rcases Nat.lt_or_ge i L.size with h' | h'
  · have := h L[i] (by simp)
    simp [h'] at this ⊢
    exact this
  · simp [Array.getElem?_eq_none h']

section
variable {P : Program} {ops : Array Oper} {Q : Exit → Act → World → Prop}

/-- Where nothing is ready, all are listed: edges lead back. -/
theorem all_listed (hback : backB ops = true) {L : Array Bool} (hsz : L.size = ops.size) (h : Region.ready .any ops L = []) : ∀ n i, i < n → L.getD i true = true := by
  intro n
  induction n with
  | zero => intro i hi; omega
  | succ n ih =>
    intro i hi
    by_cases hlt : i < n
    · exact ih i hlt
    obtain rfl : i = n := by omega
    rcases Nat.lt_or_ge i ops.size with h' | h'
    · cases hL : L.getD i true with
      | true => rfl
      | false =>
        have hmem : i ∈ Region.ready .any ops L := by
          unfold Region.ready
          rw [List.mem_filter]
          refine ⟨List.mem_range.mpr h', ?_⟩
          obtain ⟨o, ho⟩ : ∃ o, ops[i]? = some o := ⟨ops[i], Array.getElem?_eq_getElem h'⟩
          simp only [hL, ho, Option.map_some, Option.getD_some, Bool.not_false, Bool.true_and]
          rw [Array.all_eq_true']
          intro e he
          have hlt' := back_of hback ho he
          have := ih e.on hlt'
          have hsz' : e.on < L.size := by omega
          simp [hsz'] at this ⊢
          exact .inr this
        rw [h] at hmem
        cases hmem
    · simp [Array.getElem?_eq_none (show L.size ≤ i by omega)]

variable {a0 : Act} {w0 : World} {R : World → World → Prop} {Φ : Nat → Value → World → Prop} {J : Array Bool → Act → World → Prop}

/-- A region that draws its order: each operation is walked once. R: how the world may go on; Φ: what each slot holds, which R does not spoil; J: what holds of several slots together. -/
theorem wp_region_dagJ {id : Nat} (hm : P.follows .mixedOrders = true) (hback : backB ops = true) (hown : ownSlotsB ops = true)
    (hR0 : R w0.drew w0.drew) (hRt : ∀ a b c, R a b → R b c → R a c)
    (stab : ∀ j v w w', R w w' → Φ j v w → Φ j v w')
    (hJ0 : J (Array.replicate ops.size false) a0 w0.drew)
    (step : ∀ (i : Nat) (o : Oper), ops[i]? = some o → ∀ (L : Array Bool) (a : Act) (w : World), Frames ops a0 a → R w0.drew w → L.size = ops.size → L.getD i true = false →
      (∀ (j : Nat) (oj : Oper), ops[j]? = some oj → L.getD j true = true → Φ j (slotOf oj a) w) →
      (∀ e ∈ o.after, Region.binds .any e = true → L.getD e.on true = true) → J L a w →
      ∀ K' : Act → World → Prop, (∀ v w', R w w' → Φ i (slotOf o (a.put o.dst v)) w' → J (L.setIfInBounds i true) (a.put o.dst v) w' → K' (a.put o.dst v) w') →
        if Region.wanted o (yielded ops a.tmps) = true then Oper.wp P o a w K' Q else K' (a.put o.dst undef) w)
    (fin : ∀ (L : Array Bool) (a : Act) (w : World), Frames ops a0 a → R w0.drew w → (∀ (j : Nat) (oj : Oper), ops[j]? = some oj → L.getD j true = true ∧ Φ j (slotOf oj a) w) → J L a w → Q .normal a w) :
    (Code.region id ops true).wp P Q a0 w0 := by
  refine wp_region_any hm ?_
  have main : ∀ (fuel : Nat) (L : Array Bool) (a : Act) (w : World), L.size = ops.size → unlisted L ≤ fuel → Frames ops a0 a → R w0.drew w →
      (∀ (j : Nat) (oj : Oper), ops[j]? = some oj → L.getD j true = true → Φ j (slotOf oj a) w) → J L a w → wpAny P .any ops Q fuel L a w := by
    intro fuel
    induction fuel with
    | zero =>
      intro L a w hsz hu hf hr hp hj
      have hz := unlisted_zero (L := L) (by omega)
      refine ⟨?_, fin L a w hf hr (fun j oj hj => ⟨hz j, hp j oj hj (hz j)⟩) hj⟩
      rw [List.eq_nil_iff_forall_not_mem]
      intro i hi
      have := (mem_ready.1 hi).1
      rw [hz i] at this; cases this
    | succ fuel ih =>
      intro L a w hsz hu hf hr hp hj
      refine ⟨fun hn => fin L a w hf hr (fun j oj hj => ⟨all_listed hback hsz hn (j + 1) j (by omega), hp j oj hj (all_listed hback hsz hn (j + 1) j (by omega))⟩) hj, fun i hi => ?_⟩
      obtain ⟨hL, o, ho, hall⟩ := mem_ready.1 hi
      refine wpOp_step ho fun K' hK' => step i o ho L a w hf hr hsz hL hp (fun e he hb => ?_) hj K' fun v w' hr' hphi hj' => hK' _ _ (ih _ _ _ (by simp [hsz]) (by have := unlisted_set hL; omega) (hf.put ho v) (hRt _ _ _ hr hr') ?_ hj')
      · have := hall e he hb
        rcases Nat.lt_or_ge e.on L.size with h' | h'
        · simp [h'] at this ⊢; exact this
        · simp [Array.getElem?_eq_none h']
      · intro j oj hj hl
        by_cases e : i = j
        · subst e
          rw [ho] at hj; cases hj
          exact hphi
        · rw [slotOf_put hown ho hj e]
          rw [getD_set_ne true e] at hl
          exact stab j _ w w' hr' (hp j oj hj hl)
  exact main ops.size _ a0 _ (by simp) (by simp [unlisted, List.countP_replicate]) ⟨rfl, rfl, fun _ _ => rfl⟩ hR0 (by
    intro j oj hj hl
    have hjl : j < ops.size := (Array.getElem?_eq_some_iff.mp hj).1
    simp [hjl] at hl) hJ0

/-- .. where nothing is to be said of several slots together. -/
theorem wp_region_dag {id : Nat} (hm : P.follows .mixedOrders = true) (hback : backB ops = true) (hown : ownSlotsB ops = true)
    (hR0 : R w0.drew w0.drew) (hRt : ∀ a b c, R a b → R b c → R a c)
    (stab : ∀ j v w w', R w w' → Φ j v w → Φ j v w')
    (step : ∀ (i : Nat) (o : Oper), ops[i]? = some o → ∀ (a : Act) (w : World), Frames ops a0 a → R w0.drew w →
      (∀ e ∈ o.after, Region.binds .any e = true → ∀ oj, ops[e.on]? = some oj → Φ e.on (slotOf oj a) w) →
      ∀ K' : Act → World → Prop, (∀ v w', R w w' → Φ i (slotOf o (a.put o.dst v)) w' → K' (a.put o.dst v) w') →
        if Region.wanted o (yielded ops a.tmps) = true then Oper.wp P o a w K' Q else K' (a.put o.dst undef) w)
    (fin : ∀ (a : Act) (w : World), Frames ops a0 a → R w0.drew w → (∀ (j : Nat) (oj : Oper), ops[j]? = some oj → Φ j (slotOf oj a) w) → Q .normal a w) :
    (Code.region id ops true).wp P Q a0 w0 :=
  wp_region_dagJ (J := fun _ _ _ => True) hm hback hown hR0 hRt stab trivial
    (fun i o ho _ a w hf hr _ _ hp he _ K' hK' => step i o ho a w hf hr (fun e h1 h2 oj hoj => hp _ oj hoj (he e h1 h2)) K' fun v w' h1 h2 => hK' v w' h1 h2 trivial)
    (fun _ a w hf hr hp _ => fin a w hf hr fun j oj hj => (hp j oj hj).2)
end

/-- A frame, slot by slot. -/
theorem act_lit (a : Act) (n : Nat) (h : a.tmps.size = n) : ∃ f : Nat → Value, a = ⟨((List.range n).map f).toArray, a.defers⟩ ∧ ∀ i, f i = a.tmps.getD i undef := by
  refine ⟨fun i => a.tmps.getD i undef, ?_, fun _ => rfl⟩
  obtain ⟨tm, df⟩ := a
  simp only at h ⊢
  congr 1
  apply Array.ext
  · simp [h]
  · intro i h1 h2
    simp [h1]

section
variable {P : Program} {ops : Array Oper} {Q : Exit → Act → World → Prop} {a0 : Act} {w0 : World} {R : World → World → Prop} {Φ : Nat → Value → World → Prop} {J : Array Bool → Act → World → Prop}

/-- The last operation waits for all others. -/
def lastB (ops : Array Oper) (n : Nat) : Bool := (List.range n).all fun j => ((ops[n]?).map fun o => o.after.any fun e => Region.binds .any e && e.on == j).getD false

theorem last_of {n : Nat} (h : lastB ops n = true) {o : Oper} (ho : ops[n]? = some o) {j : Nat} (hj : j < n) : ∃ e ∈ o.after, Region.binds .any e = true ∧ e.on = j := by
  have h1 := List.all_eq_true.mp h j (List.mem_range.mpr hj)
  simp only [ho, Option.map_some, Option.getD_some] at h1
  obtain ⟨e, he, h2⟩ := Array.any_eq_true'.mp h1
  simp at h2
  exact ⟨e, he, h2.1, h2.2⟩

/-- A region whose last operation waits for all others: the others are walked once each, in whatever order; then the last. -/
theorem wp_region_last {id : Nat} (n : Nat) (on : Oper) (hn : ops.size = n + 1) (hon : ops[n]? = some on) (hlast : lastB ops n = true)
    (hm : P.follows .mixedOrders = true) (hback : backB ops = true) (hown : ownSlotsB ops = true)
    (hR0 : R w0.drew w0.drew) (hRt : ∀ a b c, R a b → R b c → R a c)
    (stab : ∀ j v w w', R w w' → Φ j v w → Φ j v w')
    (hJ0 : J (Array.replicate ops.size false) a0 w0.drew)
    (step : ∀ (i : Nat) (o : Oper), ops[i]? = some o → i < n → ∀ (L : Array Bool) (a : Act) (w : World), Frames ops a0 a → R w0.drew w → L.size = ops.size → L.getD i true = false →
      (∀ (j : Nat) (oj : Oper), ops[j]? = some oj → L.getD j true = true → Φ j (slotOf oj a) w) →
      (∀ e ∈ o.after, Region.binds .any e = true → L.getD e.on true = true) → J L a w →
      ∀ K' : Act → World → Prop, (∀ v w', R w w' → Φ i (slotOf o (a.put o.dst v)) w' → J (L.setIfInBounds i true) (a.put o.dst v) w' → K' (a.put o.dst v) w') →
        if Region.wanted o (yielded ops a.tmps) = true then Oper.wp P o a w K' Q else K' (a.put o.dst undef) w)
    (fin : ∀ (L : Array Bool) (a : Act) (w : World), Frames ops a0 a → R w0.drew w → (∀ (j : Nat) (oj : Oper), j < n → ops[j]? = some oj → L.getD j true = true ∧ Φ j (slotOf oj a) w) → J L a w →
      ∀ K' : Act → World → Prop, (∀ a' w', Q .normal a' w' → K' a' w') → if Region.wanted on (yielded ops a.tmps) = true then Oper.wp P on a w K' Q else K' (a.put on.dst undef) w) :
    (Code.region id ops true).wp P Q a0 w0 := by
  refine wp_region_any hm ?_
  have main : ∀ (fuel : Nat) (L : Array Bool) (a : Act) (w : World), L.size = ops.size → unlisted L ≤ fuel → L.getD n true = false → Frames ops a0 a → R w0.drew w →
      (∀ (j : Nat) (oj : Oper), ops[j]? = some oj → L.getD j true = true → Φ j (slotOf oj a) w) → J L a w → wpAny P .any ops Q fuel L a w := by
    intro fuel
    induction fuel with
    | zero =>
      intro L a w hsz hu hnl hf hr hp hj
      have hz := unlisted_zero (L := L) (by omega) n
      rw [hnl] at hz; cases hz
    | succ fuel ih =>
      intro L a w hsz hu hnl hf hr hp hj
      refine ⟨fun hne => ?_, fun i hi => ?_⟩
      · have := all_listed hback hsz hne (n + 1) n (by omega)
        rw [hnl] at this; cases this
      obtain ⟨hL, o, ho, hall⟩ := mem_ready.1 hi
      have hafter : ∀ e ∈ o.after, Region.binds .any e = true → L.getD e.on true = true := fun e he hb => by
        have := hall e he hb
        rcases Nat.lt_or_ge e.on L.size with h' | h'
        · simp [h'] at this ⊢; exact this
        · simp [Array.getElem?_eq_none h']
      have hilt : i < n + 1 := by rw [← hn]; exact (Array.getElem?_eq_some_iff.mp ho).1
      by_cases hin : i = n
      · subst hin
        rw [hon] at ho; cases ho
        refine wpOp_step hon fun K' hK' => fin L a w hf hr (fun j oj hjn hj => ?_) hj K' fun a' w' hq => hK' _ _ ?_
        · obtain ⟨e, he, hb, rfl⟩ := last_of hlast hon hjn
          exact ⟨hafter e he hb, hp _ oj hj (hafter e he hb)⟩
        · have hall' : Region.ready .any ops (L.setIfInBounds i true) = [] := by
            rw [List.eq_nil_iff_forall_not_mem]
            intro k hk
            obtain ⟨hk1, ok, hok, _⟩ := mem_ready.1 hk
            have hkl : k < i + 1 := by rw [← hn]; exact (Array.getElem?_eq_some_iff.mp hok).1
            by_cases e : i = k
            · subst e
              have hil : i < L.size := by omega
              simp [hil] at hk1
            · rw [getD_set_ne true e] at hk1
              obtain ⟨e', he, hb, rfl⟩ := last_of hlast hon (show k < i by omega)
              rw [hafter e' he hb] at hk1; cases hk1
          cases fuel with
          | zero => exact ⟨hall', hq⟩
          | succ fuel => exact ⟨fun _ => hq, fun k hk => by rw [hall'] at hk; cases hk⟩
      · refine wpOp_step ho fun K' hK' => step i o ho (by omega) L a w hf hr hsz hL hp hafter hj K' fun v w' hr' hphi hj' => hK' _ _ (ih _ _ _ (by simp [hsz]) (by have := unlisted_set hL; omega) (by rw [getD_set_ne true hin]; exact hnl) (hf.put ho v) (hRt _ _ _ hr hr') ?_ hj')
        intro j oj hj hl
        by_cases e : i = j
        · subst e
          rw [ho] at hj; cases hj
          exact hphi
        · rw [slotOf_put hown ho hj e]
          rw [getD_set_ne true e] at hl
          exact stab j _ w w' hr' (hp j oj hj hl)
  exact main ops.size _ a0 _ (by simp) (by simp [unlisted, List.countP_replicate]) (by simp [hn]) ⟨rfl, rfl, fun _ _ => rfl⟩ hR0 (by
    intro j oj hj hl
    have hjl : j < ops.size := (Array.getElem?_eq_some_iff.mp hj).1
    simp [hjl] at hl) hJ0
end

/-- The world goes on: new blocks alone. -/
abbrev Grow (u u' : World) : Prop := Below u.heap.size u u'

theorem grow_trans (a b c : World) (h : Grow a b) (k : Grow b c) : Grow a c := below_two h k

/-- A variable's cells are there, and may be written. -/
def Zero (n : Nat) (u : World) (B : Nat) : Prop := ∀ k, k < n → (u.cell? ⟨B, k, none⟩).isSome = true ∧ u.frozen? ⟨B, k, none⟩ = false

theorem Zero.grow {n : Nat} {u u' : World} {B : Nat} (h : Zero n u B) (hg : Grow u u') (hB : B < u.heap.size) : Zero n u' B := fun k hk => by
  rw [hg.cell (p := ⟨B, k, none⟩) hB, hg.frozen (p := ⟨B, k, none⟩) hB]; exact h k hk

/-- What holds of a new variable and of what will be stored there. -/
structure VarJ (Own : World → Nat → Nat → Value → Prop) (n0 nc iA iC : Nat) (p r : Tmp) (L : Array Bool) (a : Act) (u : World) : Prop where
  al : L.getD iA true = true → ∃ B, a.tmps.getD p undef = .pointer (some ⟨B, 0, none⟩) ∧ n0 ≤ B ∧ B < u.heap.size ∧ Zero nc u B
  cl : L.getD iC true = true → ∃ lo hi, Own u lo hi (a.tmps.getD r undef) ∧ n0 ≤ lo ∧ hi ≤ u.heap.size ∧
    (L.getD iA true = true → ∀ B, a.tmps.getD p undef = .pointer (some ⟨B, 0, none⟩) → B < lo ∨ hi ≤ B)

section
variable {P : Program} {ops : Array Oper} {Q : Exit → Act → World → Prop} {a0 : Act} {w0 : World} {Φ : Nat → Value → World → Prop} {Own : World → Nat → Nat → Value → Prop}

theorem getD_set_self' {L : Array Bool} {i : Nat} (h : i < L.size) : (L.setIfInBounds i true).getD i true = true := by simp [h]

theorem getD_put_self (a : Act) (d : Tmp) (v : Value) (h : d < a.tmps.size) : (a.put (some d) v).tmps.getD d undef = v := by
  show (a.tmps.setIfInBounds d v).getD d undef = v
  simp [h]

/-- 'x := f(..)' where x is a variable in memory: a region that draws its order, its last operation the store. iA: the variable is made; iC: the call whose answer is stored. -/
theorem wp_region_var {id : Nat} (n iA iC : Nat) (on oA oC : Oper) (p r : Tmp) (nc : Nat) (hn : ops.size = n + 1) (hon : ops[n]? = some on) (hlast : lastB ops n = true)
    (hA : ops[iA]? = some oA) (hC : ops[iC]? = some oC) (hAp : oA.dst = some p) (hCr : oC.dst = some r) (hAC : iA ≠ iC) (hpr : p ≠ r) (hAn : iA < n) (hCn : iC < n) (hps : p < a0.tmps.size) (hrs : r < a0.tmps.size)
    (hm : P.follows .mixedOrders = true) (hback : backB ops = true) (hown : ownSlotsB ops = true)
    (ownKept : ∀ u u' lo hi v, (∀ k, lo ≤ k → k < hi → u'.heap[k]? = u.heap[k]?) → Own u lo hi v → Own u' lo hi v)
    (stab : ∀ j v w w', Grow w w' → Φ j v w → Φ j v w')
    (step : ∀ (i : Nat) (o : Oper), ops[i]? = some o → i < n → i ≠ iA → i ≠ iC → ∀ (a : Act) (u : World), Frames ops a0 a → Grow w0 u →
      (∀ e ∈ o.after, Region.binds .any e = true → ∀ oj, ops[e.on]? = some oj → Φ e.on (slotOf oj a) u) →
      ∀ K' : Act → World → Prop, (∀ v u', Grow u u' → Φ i (slotOf o (a.put o.dst v)) u' → K' (a.put o.dst v) u') →
        if Region.wanted o (yielded ops a.tmps) = true then Oper.wp P o a u K' Q else K' (a.put o.dst undef) u)
    (stepA : ∀ (a : Act) (u : World), Frames ops a0 a → ∀ K' : Act → World → Prop, (∀ u', Grow u u' → u.heap.size < u'.heap.size → Zero nc u' u.heap.size → K' (a.put oA.dst (.pointer (some ⟨u.heap.size, 0, none⟩))) u') →
        if Region.wanted oA (yielded ops a.tmps) = true then Oper.wp P oA a u K' Q else K' (a.put oA.dst undef) u)
    (stepC : ∀ (a : Act) (u : World), Frames ops a0 a → Grow w0 u →
      (∀ e ∈ oC.after, Region.binds .any e = true → ∀ oj, ops[e.on]? = some oj → Φ e.on (slotOf oj a) u) →
      ∀ K' : Act → World → Prop, (∀ v u', Grow u u' → Own u' u.heap.size u'.heap.size v → K' (a.put oC.dst v) u') →
        if Region.wanted oC (yielded ops a.tmps) = true then Oper.wp P oC a u K' Q else K' (a.put oC.dst undef) u)
    (hΦA : ∀ v u, Φ iA v u) (hΦC : ∀ v u, Φ iC v u)
    (fin : ∀ (a : Act) (u : World) (B lo hi : Nat), Frames ops a0 a → Grow w0 u → a.tmps.getD p undef = .pointer (some ⟨B, 0, none⟩) → w0.heap.size ≤ B → B < u.heap.size → Zero nc u B →
      Own u lo hi (a.tmps.getD r undef) → w0.heap.size ≤ lo → hi ≤ u.heap.size → (B < lo ∨ hi ≤ B) → (∀ (j : Nat) (oj : Oper), j < n → ops[j]? = some oj → Φ j (slotOf oj a) u) →
      ∀ K' : Act → World → Prop, (∀ a' w', Q .normal a' w' → K' a' w') → if Region.wanted on (yielded ops a.tmps) = true then Oper.wp P on a u K' Q else K' (a.put on.dst undef) u) :
    (Code.region id ops true).wp P Q a0 w0 := by
  have hg0 : ∀ u, Grow w0.drew u → Grow w0 u := fun u h => (Below.drew (Below.refl _ _)).trans h
  refine wp_region_last (R := Grow) (Φ := Φ) (J := VarJ Own w0.heap.size nc iA iC p r) n on hn hon hlast hm hback hown (Below.refl _ _) grow_trans stab ?_ ?_ ?_
  · have h1 : (Array.replicate ops.size false).getD iA true = false := by simp [hn, show iA < n + 1 by omega]
    have h2 : (Array.replicate ops.size false).getD iC true = false := by simp [hn, show iC < n + 1 by omega]
    refine ⟨fun h => ?_, fun h => ?_⟩
    · rw [h1] at h; cases h
    · rw [h2] at h; cases h
  · intro i o ho hin L a u hf hr hsz hL hp he hj K' hK
    have hus : w0.heap.size ≤ u.heap.size := hr.size
    by_cases eA : i = iA
    · subst eA
      rw [hA] at ho; cases ho
      refine stepA a u hf K' fun u' hg hlt hz => hK _ _ hg (hΦA _ _) ⟨fun _ => ⟨u.heap.size, ?_, hus, hlt, hz⟩, fun hc => ?_⟩
      · rw [hAp]; exact getD_put_self _ _ _ (by rw [hf.size]; exact hps)
      · rw [getD_set_ne true hAC] at hc
        obtain ⟨lo, hi, ho, h1, h2, _⟩ := hj.cl hc
        rw [hAp, getD_put_ne _ _ _ _ hpr]
        refine ⟨lo, hi, ownKept _ _ _ _ _ (fun k _ h4 => hg.block k (by omega)) ho, h1, Nat.le_trans h2 hg.size, fun _ B hB => ?_⟩
        rw [getD_put_self _ _ _ (by rw [hf.size]; exact hps)] at hB
        have : u.heap.size = B := by simpa using hB
        omega
    · by_cases eC : i = iC
      · subst eC
        rw [hC] at ho; cases ho
        refine stepC a u hf (hg0 u hr) (fun e h1 h2 oj hoj => hp _ oj hoj (he e h1 h2)) K' fun v u' hg hown' => hK _ _ hg (hΦC _ _) ⟨fun ha => ?_, fun _ => ⟨u.heap.size, u'.heap.size, ?_, hus, Nat.le_refl _, fun ha B hB => ?_⟩⟩
        · rw [getD_set_ne true (Ne.symm hAC)] at ha
          obtain ⟨B, h1, h2, h3, h4⟩ := hj.al ha
          refine ⟨B, ?_, h2, Nat.lt_of_lt_of_le h3 hg.size, h4.grow hg h3⟩
          rw [hCr, getD_put_ne _ _ _ _ (Ne.symm hpr)]; exact h1
        · rw [hCr, getD_put_self _ _ _ (by rw [hf.size]; exact hrs)]; exact hown'
        · rw [getD_set_ne true (Ne.symm hAC)] at ha
          obtain ⟨B', h1, h2, h3, h4⟩ := hj.al ha
          rw [hCr, getD_put_ne _ _ _ _ (Ne.symm hpr), h1] at hB
          have : B' = B := by simpa using hB
          omega
      · refine step i o ho hin eA eC a u hf (hg0 u hr) (fun e h1 h2 oj hoj => hp _ oj hoj (he e h1 h2)) K' fun v u' hg hphi => hK v u' hg hphi ?_
        have hsp : ∀ t, (∃ j oj, ops[j]? = some oj ∧ oj.dst = some t ∧ i ≠ j) → (a.put o.dst v).tmps.getD t undef = a.tmps.getD t undef := by
          rintro t ⟨j, oj, hj, hd, hne⟩
          cases hdo : o.dst with
          | none => rfl
          | some d => exact getD_put_ne _ _ _ _ (fun e => ownSlots hown ho hj hne hdo (by rw [hd, e]))
        have e1 := hsp p ⟨iA, oA, hA, hAp, eA⟩
        have e2 := hsp r ⟨iC, oC, hC, hCr, eC⟩
        refine ⟨fun ha => ?_, fun hc => ?_⟩
        · rw [getD_set_ne true eA] at ha
          obtain ⟨B, h1, h2, h3, h4⟩ := hj.al ha
          exact ⟨B, by rw [e1]; exact h1, h2, Nat.lt_of_lt_of_le h3 hg.size, h4.grow hg h3⟩
        · rw [getD_set_ne true eC] at hc
          obtain ⟨lo, hi, h1, h2, h3, h4⟩ := hj.cl hc
          refine ⟨lo, hi, by rw [e2]; exact ownKept _ _ _ _ _ (fun k _ h5 => hg.block k (by omega)) h1, h2, Nat.le_trans h3 hg.size, fun ha B hB => ?_⟩
          rw [getD_set_ne true eA] at ha
          rw [e1] at hB
          exact h4 ha B hB
  · intro L a u hf hr hp hj K' hK
    have lA := (hp iA oA hAn hA).1
    have lC := (hp iC oC hCn hC).1
    obtain ⟨B, h1, h2, h3, h4⟩ := hj.al lA
    obtain ⟨lo, hi, g1, g2, g3, g4⟩ := hj.cl lC
    exact fin a u B lo hi hf (hg0 u hr) h1 h2 h3 h4 g1 g2 g3 (g4 lA B h1) (fun j oj h5 h6 => (hp j oj h5 h6).2) K' hK
end
end Go.Proofs.YtokphdpaghkakaaGreat

/-
  eqExpr, eqExprS: the laws' helpers that compare.
-/
namespace Go.Proofs.YtokphdpaghkakaaGreat
open Go.ChangeShapes Go.WideShapes Go.ChangeAt Go.RowKit
set_option linter.unusedVariables false

theorem exprD_eq {x y : ExprD} : x = y ↔ x.k = y.k ∧ x.n = y.n ∧ x.ak = y.ak ∧ x.at_ = y.at_ ∧ x.kids = y.kids := by
  cases x; cases y; simp [ExprD.k, ExprD.n, ExprD.ak, ExprD.at_, ExprD.kids]

/-- What eqExprS answers of lists of which the first has at most n parts. -/
def EqS (n : Nat) : Prop := ∀ (w : World) (lo hi lo' hi' : Nat) (v v' : Value) (es es' : List ExprD), manyL es ≤ n → KR w lo hi v es → KR w lo' hi' v' es' → hi ≤ w.heap.size → hi' ≤ w.heap.size →
  Calls Tryz.prog 141 #[v, v'] w fun e w' => ∃ r : Bool, e = .returned (.bool r) ∧ (r = true ↔ es = es') ∧ Below w.heap.size w w'

set_option maxHeartbeats 1000000 in
theorem eqExpr_of {n : Nat} (H : EqS n) (w : World) (lo hi lo' hi' : Nat) (x y : ExprD) (s s' : Value) (hn : manyL x.kids ≤ n) (h : KR w lo hi s x.kids) (h' : KR w lo' hi' s' y.kids) (hhi : hi ≤ w.heap.size) (hhi' : hi' ≤ w.heap.size) :
    Calls Tryz.prog 117 #[.agg #[.int .i64 x.k, .int .i64 x.n, .int .i64 x.ak, .int .i64 x.at_, s], .agg #[.int .i64 y.k, .int .i64 y.n, .int .i64 y.ak, .int .i64 y.at_, s']] w fun e w' => ∃ r : Bool, e = .returned (.bool r) ∧ (r = true ↔ x = y) ∧ Below w.heap.size w w' := by
  have b2 := fun o o' => ((Below.refl w.heap.size w).alloc (Nat.le_refl _) o).alloc (by simp) o'
  have HX : Hid (x = y ↔ x.k = y.k ∧ x.n = y.n ∧ x.ak = y.ak ∧ x.at_ = y.at_ ∧ x.kids = y.kids) := exprD_eq
  obtain ⟨ad, cap, rfl, _, _⟩ := h.shape
  obtain ⟨ad', cap', rfl, _, _⟩ := h'.shape
  obtain ⟨k1, e1⟩ : ∃ q, x.k = q := ⟨_, rfl⟩
  obtain ⟨n1, e2⟩ : ∃ q, x.n = q := ⟨_, rfl⟩
  obtain ⟨a1, e3⟩ : ∃ q, x.ak = q := ⟨_, rfl⟩
  obtain ⟨t1, e4⟩ : ∃ q, x.at_ = q := ⟨_, rfl⟩
  obtain ⟨k2, d1⟩ : ∃ q, y.k = q := ⟨_, rfl⟩
  obtain ⟨n2, d2⟩ : ∃ q, y.n = q := ⟨_, rfl⟩
  obtain ⟨a2, d3⟩ : ∃ q, y.ak = q := ⟨_, rfl⟩
  obtain ⟨t2, d4⟩ : ∃ q, y.at_ = q := ⟨_, rfl⟩
  rw [e1, e2, e3, e4, d1, d2, d3, d4] at HX
  rw [e1, e2, e3, e4, d1, d2, d3, d4]
  clear e1 e2 e3 e4 d1 d2 d3 d4
  have HK := And.intro h h'
  have HK : Hid (KR w lo hi (.slice ad x.kids.length cap) x.kids ∧ KR w lo' hi' (.slice ad' y.kids.length cap') y.kids) := HK
  clear h h'
  by_cases q1 : k1 = k2
  · have q1' : (k1 != k2) = false := by simp [q1]
    by_cases q2 : n1 = n2
    · have q2' : (n1 != n2) = false := by simp [q2]
      have Q12 : Hid (k1 = k2 ∧ n1 = n2) := ⟨q1, q2⟩
      clear q1 q2
      go_enter Tryz.func117, Tryz.ntmps117
      go_wp2_with fail
      obtain ⟨u0, hu0, G0, c0, c1, S0⟩ : ∃ u0, (w.alloc (.cells #[.int .i64 k1, .int .i64 n1, .int .i64 a1, .int .i64 t1, .slice ad x.kids.length cap] 65)).alloc (.cells #[.int .i64 k2, .int .i64 n2, .int .i64 a2, .int .i64 t2, .slice ad' y.kids.length cap'] 65) = u0 ∧ Below w.heap.size w u0 ∧ u0.cell? ⟨w.heap.size, 4, none⟩ = some (.slice ad x.kids.length cap) ∧ u0.cell? ⟨w.heap.size + 1, 4, none⟩ = some (.slice ad' y.kids.length cap') ∧ u0.heap.size = w.heap.size + 2 :=
        ⟨_, rfl, b2 _ _, World.cell?_alloc2_first _ _ _ _, World.cell?_alloc2_new _ _ _ _, by simp⟩
      rw [hu0]
      clear hu0
      refine (eqAddr_any _ ⟨a1, t1⟩ ⟨a2, t2⟩).mono ?_
      by_cases q3 : (⟨a1, t1⟩ : AddrD) = ⟨a2, t2⟩
      · rw [decide_eq_true q3]
        rintro e1 u1 ⟨rfl, g1⟩
        have S1 := g1.size
        have G1 := G0.trans (g1.mono (by omega))
        rw [← g1.cell (p := ⟨w.heap.size, 4, none⟩) (by show w.heap.size < u0.heap.size; omega)] at c0
        rw [← g1.cell (p := ⟨w.heap.size + 1, 4, none⟩) (by show w.heap.size + 1 < u0.heap.size; omega)] at c1
        have Q3 : Hid (a1 = a2 ∧ t1 = t2) := by simp at q3; exact q3
        clear g1 G0 q3
        go_wp2_with fail
        refine (H _ lo hi lo' hi' _ _ x.kids y.kids hn (HK.out.1.under G1 hhi) (HK.out.2.under G1 hhi') (by omega) (by omega)).mono ?_
        rintro e2 u2 ⟨r, rfl, hr, g2⟩
        have G2 := G1.trans (g2.mono (by omega))
        have HR : Hid (r = true ↔ x.kids = y.kids) := hr
        clear g2 hr G1 c0 c1
        have hfin : (r = true ↔ x = y) := by
          rw [HR.out, HX.out]
          exact ⟨fun h => ⟨Q12.out.1, Q12.out.2, Q3.out.1, Q3.out.2, h⟩, fun h => h.2.2.2.2⟩
        have HF : Hid (r = true ↔ x = y) := hfin
        clear hfin
        cases r with
        | true =>
          go_wp2
          go_ret
          exact ⟨true, rfl, by simpa using HF.out, G2⟩
        | false =>
          go_wp2
          go_ret
          exact ⟨false, rfl, HF.out, G2⟩
      · rw [decide_eq_false q3]
        rintro e1 u1 ⟨rfl, g1⟩
        have G1 := G0.trans (g1.mono (by omega))
        have HF : Hid (false = true ↔ x = y) := by show _ ↔ _; rw [HX.out]; simp at q3 ⊢; intro _ _ h1 h2; exact absurd h2 (q3 h1)
        clear g1 G0 q3 c0 c1
        go_wp2
        go_ret
        exact ⟨false, rfl, HF.out, G1⟩
    · have q2' : (n1 != n2) = true := by simp [q2]
      have HF : Hid (false = true ↔ x = y) := by show _ ↔ _; rw [HX.out]; simp; intro _ h; exact absurd h q2
      clear q1 q2
      go_enter Tryz.func117, Tryz.ntmps117
      go_wp2
      go_ret
      exact ⟨false, rfl, HF.out, b2 _ _⟩
  · have q1' : (k1 != k2) = true := by simp [q1]
    have HF : Hid (false = true ↔ x = y) := by show _ ↔ _; rw [HX.out]; simp; intro h; exact absurd h q1
    clear q1
    go_enter Tryz.func117, Tryz.ntmps117
    go_wp2
    go_ret
    exact ⟨false, rfl, HF.out, b2 _ _⟩

theorem take_succ_eq {xs ys : List ExprD} {j : Nat} {x y : ExprD} (h : xs.take j = ys.take j) (hx : xs[j]? = some x) (hy : ys[j]? = some y) (e : x = y) : xs.take (j + 1) = ys.take (j + 1) := by
  rw [List.take_add_one, List.take_add_one, h, hx, hy, e]

theorem ne_at_expr {xs ys : List ExprD} {j : Nat} {x y : ExprD} (hx : xs[j]? = some x) (hy : ys[j]? = some y) (e : x ≠ y) : xs ≠ ys := by
  intro h; rw [h, hy] at hx; exact e (Option.some.inj hx).symm

set_option maxHeartbeats 2000000 in
theorem eqExprS_step {n : Nat} (H : ∀ m, m < n → EqS m) : EqS n := by
  intro w lo hi lo' hi' v v' es es' hn h h' hhi hhi'
  obtain ⟨ad, cap, rfl, hc1, hc2⟩ := h.shape
  obtain ⟨ad', cap', rfl, hd1, hd2⟩ := h'.shape
  have hmx : es.length ≤ 9223372036854775807 := by unfold maxLen at hc2; omega
  have hmx' : es'.length ≤ 9223372036854775807 := by unfold maxLen at hd2; omega
  have HK : Hid (KR w lo hi (.slice ad es.length cap) es) := h
  have HK' : Hid (KR w lo' hi' (.slice ad' es'.length cap') es') := h'
  clear h h' hc1 hc2 hd1 hd2
  by_cases hl : es.length = es'.length
  · have hl2 : ((es.length : Int) != (es'.length : Int)) = false := by simp; omega
    have HL : Hid (es.length = es'.length) := hl
    clear hl
    go_enter Tryz.func141, Tryz.ntmps141
    go_wp2_with fail
    go_loopw [5] (fun i wr => ∃ j : Nat, j ≤ es.length ∧ i = .int .i64 j ∧ Below w.heap.size w wr ∧ es.take j = es'.take j) (fun i _ => es.length - (intOf i).toNat)
    case atStart => exact ⟨0, Nat.zero_le _, rfl, Below.refl _ _, rfl⟩
    case round =>
      obtain ⟨j, hj, rfl, hb, ht⟩ := hrel
      have HT : Hid (es.take j = es'.take j) := ht
      clear ht
      by_cases hlt : j < es.length
      · obtain ⟨x, hx⟩ : ∃ x, es[j]? = some x := ⟨es[j], List.getElem?_eq_getElem hlt⟩
        have hlt' : j < es'.length := by rw [← HL.out]; exact hlt
        obtain ⟨y, hy⟩ : ∃ y, es'[j]? = some y := ⟨es'[j]'hlt', List.getElem?_eq_getElem hlt'⟩
        obtain ⟨b, off, cap1, s, hv, hb1, hb2, h5, hk⟩ := HK.out.at_ hx
        obtain ⟨b', off', cap1', s', hv', hb1', hb2', h5', hk'⟩ := HK'.out.at_ hy
        simp only [Value.slice.injEq, true_and] at hv hv'
        obtain ⟨rfl, rfl⟩ := hv
        obtain ⟨rfl, rfl⟩ := hv'
        have hkl := kid_lt hx
        have hsz := hb.size
        have HX : Hid (es[j]? = some x ∧ es'[j]? = some y) := ⟨hx, hy⟩
        clear hx hy
        obtain ⟨ads, cps, rfl, _, _⟩ := hk.shape
        obtain ⟨ads', cps', rfl, _, _⟩ := hk'.shape
        go_wp2_with fail
        refine wp_region_dag (R := Grow) (Φ := fun i v u => match i with
            | 0 => v = .slice (some ⟨b, off, none⟩) es.length cap
            | 1 => v = .int .i64 j
            | 2 => v = .pointer (some ⟨b, off + j * 5, none⟩)
            | 3 => v = .agg #[.int .i64 x.k, .int .i64 x.n, .int .i64 x.ak, .int .i64 x.at_, .slice ads x.kids.length cps]
            | 4 => v = .slice (some ⟨b', off', none⟩) es'.length cap'
            | 5 => v = .int .i64 j
            | 6 => v = .pointer (some ⟨b', off' + j * 5, none⟩)
            | 7 => v = .agg #[.int .i64 y.k, .int .i64 y.n, .int .i64 y.ak, .int .i64 y.at_, .slice ads' y.kids.length cps']
            | 8 => ∃ r : Bool, v = .bool r ∧ (r = true ↔ x = y)
            | 9 => ∃ r : Bool, v = .bool (!r) ∧ (r = true ↔ x = y)
            | _ => True) (by kernel_rfl) (by kernel_rfl) (by kernel_rfl) (Below.refl _ _) grow_trans ?_ ?_ ?_
        · intro i v u u' hr
          match i with
          | 0 | 1 | 2 | 3 | 4 | 5 | 6 | 7 | 8 | 9 | _ + 10 => exact fun h => h
        · intro i o ho a u hf hR0 he K' hK
          have hR : Grow wr u := (Below.drew (Below.refl _ _)).trans hR0
          have hRw : Below w.heap.size w u := hb.trans (hR.mono hsz)
          have hsz' : a.tmps.size = 27 := hf.size
          have hus : wr.heap.size ≤ u.heap.size := hR.size
          have putat : ∀ (t : Nat) (v : Value), t < a.tmps.size → (a.put (some t) v).tmps.getD t undef = v := fun t v ht => by
            show (a.tmps.setIfInBounds t v).getD t undef = v
            simp [ht]
          rcases i with _ | _ | _ | _ | _ | _ | _ | _ | _ | _ | i
          · obtain rfl := Option.some.inj ho
            have f1 : a.tmps.getD 0 undef = .slice (some ⟨b, off, none⟩) es.length cap := hf.at_ 0 (by kernel_rfl)
            clear he
            go_simp
            exact hK _ _ (Below.refl _ _) (putat 17 _ (by omega))
          · obtain rfl := Option.some.inj ho
            have f1 : a.tmps.getD 5 undef = .int .i64 j := hf.at_ 5 (by kernel_rfl)
            clear he
            go_simp
            exact hK _ _ (Below.refl _ _) (putat 18 _ (by omega))
          · obtain rfl := Option.some.inj ho
            have f1 : a.tmps.getD 17 undef = .slice (some ⟨b, off, none⟩) es.length cap := he _ (Array.mem_of_getElem? (i := 0) rfl) (by kernel_rfl) _ rfl
            have f2 : a.tmps.getD 18 undef = .int .i64 j := he _ (Array.mem_of_getElem? (i := 1) rfl) (by kernel_rfl) _ rfl
            clear he
            go_simp
            exact hK _ _ (Below.refl _ _) (putat 19 _ (by omega))
          · obtain rfl := Option.some.inj ho
            have f1 : a.tmps.getD 19 undef = .pointer (some ⟨b, off + j * 5, none⟩) := he _ (Array.mem_of_getElem? (i := 0) rfl) (by kernel_rfl) _ rfl
            obtain ⟨c0, c1, c2, c3, c4⟩ := h5
            rw [← hRw.cell (p := ⟨b, off + j * 5, none⟩) (by show b < _; omega)] at c0
            rw [← hRw.cell (p := ⟨b, off + j * 5 + 1, none⟩) (by show b < _; omega)] at c1
            rw [← hRw.cell (p := ⟨b, off + j * 5 + 2, none⟩) (by show b < _; omega)] at c2
            rw [← hRw.cell (p := ⟨b, off + j * 5 + 3, none⟩) (by show b < _; omega)] at c3
            rw [← hRw.cell (p := ⟨b, off + j * 5 + 4, none⟩) (by show b < _; omega)] at c4
            clear he
            go_simp
            exact hK _ _ (Below.refl _ _) (putat 20 _ (by omega))
          · obtain rfl := Option.some.inj ho
            have f1 : a.tmps.getD 1 undef = .slice (some ⟨b', off', none⟩) es'.length cap' := hf.at_ 1 (by kernel_rfl)
            clear he
            go_simp
            exact hK _ _ (Below.refl _ _) (putat 21 _ (by omega))
          · obtain rfl := Option.some.inj ho
            have f1 : a.tmps.getD 5 undef = .int .i64 j := hf.at_ 5 (by kernel_rfl)
            clear he
            go_simp
            exact hK _ _ (Below.refl _ _) (putat 22 _ (by omega))
          · obtain rfl := Option.some.inj ho
            have f1 : a.tmps.getD 21 undef = .slice (some ⟨b', off', none⟩) es'.length cap' := he _ (Array.mem_of_getElem? (i := 0) rfl) (by kernel_rfl) _ rfl
            have f2 : a.tmps.getD 22 undef = .int .i64 j := he _ (Array.mem_of_getElem? (i := 1) rfl) (by kernel_rfl) _ rfl
            clear he
            go_simp
            exact hK _ _ (Below.refl _ _) (putat 23 _ (by omega))
          · obtain rfl := Option.some.inj ho
            have f1 : a.tmps.getD 23 undef = .pointer (some ⟨b', off' + j * 5, none⟩) := he _ (Array.mem_of_getElem? (i := 0) rfl) (by kernel_rfl) _ rfl
            obtain ⟨c0, c1, c2, c3, c4⟩ := h5'
            rw [← hRw.cell (p := ⟨b', off' + j * 5, none⟩) (by show b' < _; omega)] at c0
            rw [← hRw.cell (p := ⟨b', off' + j * 5 + 1, none⟩) (by show b' < _; omega)] at c1
            rw [← hRw.cell (p := ⟨b', off' + j * 5 + 2, none⟩) (by show b' < _; omega)] at c2
            rw [← hRw.cell (p := ⟨b', off' + j * 5 + 3, none⟩) (by show b' < _; omega)] at c3
            rw [← hRw.cell (p := ⟨b', off' + j * 5 + 4, none⟩) (by show b' < _; omega)] at c4
            clear he
            go_simp
            exact hK _ _ (Below.refl _ _) (putat 24 _ (by omega))
          · obtain rfl := Option.some.inj ho
            have f1 : a.tmps.getD 20 undef = .agg #[.int .i64 x.k, .int .i64 x.n, .int .i64 x.ak, .int .i64 x.at_, .slice ads x.kids.length cps] := he _ (Array.mem_of_getElem? (i := 0) rfl) (by kernel_rfl) _ rfl
            have f2 : a.tmps.getD 24 undef = .agg #[.int .i64 y.k, .int .i64 y.n, .int .i64 y.ak, .int .i64 y.at_, .slice ads' y.kids.length cps'] := he _ (Array.mem_of_getElem? (i := 1) rfl) (by kernel_rfl) _ rfl
            clear he
            go_simp
            refine (eqExpr_of (n := manyL x.kids) (H _ (by omega)) u lo hi lo' hi' x y _ _ (Nat.le_refl _) (hk.under hRw hhi) (hk'.under hRw hhi') (by omega) (by omega)).mono ?_
            rintro e u' ⟨r, rfl, hr, hbu⟩
            exact hK _ _ hbu ⟨r, putat 25 _ (by omega), hr⟩
          · obtain rfl := Option.some.inj ho
            obtain ⟨r, f1, hr⟩ := he _ (Array.mem_of_getElem? (i := 0) rfl) (by kernel_rfl) _ rfl
            have f1 : a.tmps.getD 25 undef = .bool r := f1
            clear he
            go_simp
            exact hK _ _ (Below.refl _ _) ⟨r, putat 26 _ (by omega), hr⟩
          · exact absurd ho (by simp)
        · intro a u hf hR0 hp
          have hR : Grow wr u := (Below.drew (Below.refl _ _)).trans hR0
          have hRw : Below w.heap.size w u := hb.trans (hR.mono hsz)
          have md : a.defers = [] := hf.defers
          obtain ⟨r, m26, hr⟩ := hp 9 _ rfl
          have m26 : a.tmps.getD 26 undef = .bool (!r) := m26
          have m0 : a.tmps.getD 0 undef = .slice (some ⟨b, off, none⟩) es.length cap := hf.at_ 0 (by kernel_rfl)
          have m1 : a.tmps.getD 1 undef = .slice (some ⟨b', off', none⟩) es'.length cap' := hf.at_ 1 (by kernel_rfl)
          have m5 : a.tmps.getD 5 undef = .int .i64 j := hf.at_ 5 (by kernel_rfl)
          have m2 : a.tmps.getD 2 undef = undef := hf.at_ 2 (by kernel_rfl)
          have m3 : a.tmps.getD 3 undef = undef := hf.at_ 3 (by kernel_rfl)
          have m6 : a.tmps.getD 6 undef = .slice (some ⟨b, off, none⟩) es.length cap := hf.at_ 6 (by kernel_rfl)
          have m7 : a.tmps.getD 7 undef = .int .i64 es.length := hf.at_ 7 (by kernel_rfl)
          have m8 : a.tmps.getD 8 undef = .slice (some ⟨b', off', none⟩) es'.length cap' := hf.at_ 8 (by kernel_rfl)
          have m9 : a.tmps.getD 9 undef = .int .i64 es'.length := hf.at_ 9 (by kernel_rfl)
          have m10 : a.tmps.getD 10 undef = .bool false := hf.at_ 10 (by kernel_rfl)
          obtain ⟨f, ea, hfv⟩ := act_lit a 27 hf.size
          rw [← hfv] at m0 m1 m2 m3 m5 m6 m7 m8 m9 m10 m26
          rw [md] at ea
          cases r with
          | true =>
            simp only [List.range, List.range.loop, List.map_cons, List.map_nil, m0, m1, m2, m3, m5, m6, m7, m8, m9, m10, m26, Bool.not_true] at ea
            subst ea
            have HN : Hid (es.take (j + 1) = es'.take (j + 1)) := take_succ_eq HT.out HX.out.1 HX.out.2 (hr.mp rfl)
            clear hfv hf hp hR0 hR md hr h5 h5' hk hk'
            go_wp2
            go_roundw
            case rel => exact ⟨j + 1, by omega, by go_num, hRw, HN.out⟩
            case measure => simp [intOf]; omega
          | false =>
            simp only [List.range, List.range.loop, List.map_cons, List.map_nil, m0, m1, m2, m3, m5, m6, m7, m8, m9, m10, m26, Bool.not_false] at ea
            subst ea
            have HN : Hid (es ≠ es') := ne_at_expr HX.out.1 HX.out.2 fun h => by have := hr.mpr h; cases this
            clear hfv hf hp hR0 hR md hr h5 h5' hk hk'
            go_wp2
            go_ret
            exact ⟨false, rfl, by simp [HN.out], hRw⟩
      · have hje : j = es.length := by omega
        subst hje
        have he : es = es' := by have := HT.out; rwa [List.take_length, HL.out, List.take_length] at this
        have HE : Hid (es = es') := he
        clear he
        go_wp2
        go_ret
        exact ⟨true, rfl, by simp [HE.out], hb⟩
  · have hl2 : ((es.length : Int) != (es'.length : Int)) = true := by simp; omega
    have HE : Hid (es ≠ es') := fun h => hl (by rw [h])
    go_enter Tryz.func141, Tryz.ntmps141
    go_wp2
    go_ret
    exact ⟨false, rfl, by simp [HE.out], Below.refl _ _⟩

theorem eqS (n : Nat) : EqS n := by
  induction n using Nat.strongRecOn with
  | ind n ih => exact eqExprS_step ih

theorem eqExpr_any (w : World) (lo hi lo' hi' : Nat) (v v' : Value) (x y : ExprD) (h : ER w lo hi v x) (h' : ER w lo' hi' v' y) (hhi : hi ≤ w.heap.size) (hhi' : hi' ≤ w.heap.size) :
    Calls Tryz.prog 117 #[v, v'] w fun e w' => ∃ r : Bool, e = .returned (.bool r) ∧ (r = true ↔ x = y) ∧ Below w.heap.size w w' := by
  obtain ⟨s, rfl, hk⟩ := h
  obtain ⟨s', rfl, hk'⟩ := h'
  exact eqExpr_of (eqS _) w lo hi lo' hi' x y s s' (Nat.le_refl _) hk hk' hhi hhi'
end Go.Proofs.YtokphdpaghkakaaGreat

/-
  eqTrans, eqTransS, eqAct, eqActS, eqChart: the laws' helpers that compare charts, of two that read the same. (Written by our generator gen_charteq.py.)
-/
namespace Go.Proofs.YtokphdpaghkakaaGreat
open Go.ChangeShapes Go.WideShapes Go.ChangeAt Go.RowKit
set_option linter.unusedVariables false
set_option linter.unusedSimpArgs false
set_option maxRecDepth 100000

set_option maxHeartbeats 4000000 in
theorem eqTrans_same (w : World) (lo hi lo' hi' : Nat) (x y s x' y' s' : Value) (t : TransD) (ha : WayR w lo hi x y s t) (hb : WayR w lo' hi' x' y' s' t) (hhi : hi ≤ w.heap.size) (hhi' : hi' ≤ w.heap.size) :
    Calls Tryz.prog 83 #[.agg (transC x y t.e s).toArray, .agg (transC x' y' t.e s').toArray] w fun e w' => e = .returned (.bool true) ∧ Below w.heap.size w w' := by
  obtain ⟨ax, cx, ay, cy, az, cz, rfl, rfl, rfl⟩ := ha.shape
  obtain ⟨bx, dx, by_, dy, bz, dz, rfl, rfl, rfl⟩ := hb.shape
  have HK : Hid (WayR w lo hi (.slice ax t.fr.length cx) (.slice ay t.to.length cy) (.slice az t.e.kids.length cz) t ∧ WayR w lo' hi' (.slice bx t.fr.length dx) (.slice by_ t.to.length dy) (.slice bz t.e.kids.length dz) t) := ⟨ha, hb⟩
  clear ha hb
  go_enter Tryz.func83, Tryz.ntmps83
  go_wp2_with (refine wpList_boxG (vs := transC (.slice ax t.fr.length cx) (.slice ay t.to.length cy) t.e (.slice az t.e.kids.length cz)) rfl _ rfl rfl ?_)
  intro u1 g1 p1 s1
  go_wp2_with (refine wpList_boxG (vs := transC (.slice bx t.fr.length dx) (.slice by_ t.to.length dy) t.e (.slice bz t.e.kids.length dz)) rfl _ rfl rfl ?_)
  intro u2 g2 q2 s2
  have p2 := p1.below g2 (by omega)
  have G2 := g1.trans (g2.mono (by omega))
  clear g1 g2 p1
  have c0 : u2.cell? ⟨w.heap.size, 0, none⟩ = some (.slice ax t.fr.length cx) := p2.c 0 _ rfl
  have d0 : u2.cell? ⟨w.heap.size + 1, 0, none⟩ = some (.slice bx t.fr.length dx) := q2.c 0 _ rfl
  go_wp2_with fail
  clear c0 d0
  refine (eqIntS_any _ _ _ _ _ _ _ t.fr t.fr (HK.out.1.fr.below G2 hhi) (HK.out.2.fr.below G2 hhi')).mono ?_
  rw [decide_eq_true rfl]
  rintro e3 u3 ⟨m3, rfl, hm3⟩
  have g3 : Below u2.heap.size u2 u3 := by rw [hm3]; exact below_drewN (Below.refl _ _) m3
  clear hm3
  have z3 := g3.size
  have p3 := p2.below g3 (by omega)
  have q3 := q2.below g3 (by omega)
  have G3 := G2.trans (g3.mono (by omega))
  clear g3 G2 p2 q2
  have c1 : u3.cell? ⟨w.heap.size, 1, none⟩ = some (.slice ay t.to.length cy) := p3.c 1 _ rfl
  have d1 : u3.cell? ⟨w.heap.size + 1, 1, none⟩ = some (.slice by_ t.to.length dy) := q3.c 1 _ rfl
  go_wp2_with fail
  clear c1 d1
  refine (eqIntS_any _ _ _ _ _ _ _ t.to t.to (HK.out.1.to.below G3 hhi) (HK.out.2.to.below G3 hhi')).mono ?_
  rw [decide_eq_true rfl]
  rintro e4 u4 ⟨m4, rfl, hm4⟩
  have g4 : Below u3.heap.size u3 u4 := by rw [hm4]; exact below_drewN (Below.refl _ _) m4
  clear hm4
  have z4 := g4.size
  have p4 := p3.below g4 (by omega)
  have q4 := q3.below g4 (by omega)
  have G4 := G3.trans (g4.mono (by omega))
  clear g4 G3 p3 q3
  have hc : CV u4 w.heap.size 2 (exprC t.e (.slice az t.e.kids.length cz)) := p4.c.part 2 5
  have hd : CV u4 (w.heap.size + 1) 2 (exprC t.e (.slice bz t.e.kids.length dz)) := q4.c.part 2 5
  clear p4 q4
  go_wp2_with (first
    | refine wpList_loadG Tryz.isAgg65 Tryz.sizeOf65 _ rfl rfl rfl rfl hc ?_
    | refine wpList_loadG Tryz.isAgg65 Tryz.sizeOf65 _ rfl rfl rfl rfl hd ?_)
  clear hc hd
  refine (eqExpr_any _ lo hi lo' hi' _ _ t.e t.e ⟨_, rfl, HK.out.1.e.under G4 hhi⟩ ⟨_, rfl, HK.out.2.e.under G4 hhi'⟩ (by omega) (by omega)).mono ?_
  rintro e5 u5 ⟨r, rfl, hr, g5⟩
  obtain rfl : r = true := hr.mpr rfl
  have G5 := G4.trans (g5.mono (by omega))
  clear g5 G4 hr
  go_wp2
  go_ret
  exact ⟨rfl, G5⟩

set_option maxHeartbeats 2000000 in
theorem eqAct_same (w : World) (s : ActD) :
    Calls Tryz.prog 84 #[.agg (actC s).toArray, .agg (actC s).toArray] w fun e w' => e = .returned (.bool true) ∧ Below w.heap.size w w' := by
  have e1 : (s.kind != s.kind) = false := by simp
  have e2 : (s.step != s.step) = false := by simp
  go_enter Tryz.func84, Tryz.ntmps84
  go_wp2_with (refine wpList_boxG (vs := actC s) rfl _ rfl rfl ?_)
  intro u1 g1 p1 s1
  go_wp2_with (refine wpList_boxG (vs := actC s) rfl _ rfl rfl ?_)
  intro u2 g2 q2 s2
  have p2 := p1.below g2 (by omega)
  have G2 := g1.trans (g2.mono (by omega))
  clear g1 g2 p1
  have c0 : u2.cell? ⟨w.heap.size, 0, none⟩ = some (.int .i64 s.kind) := p2.c 0 _ rfl
  have c1 : u2.cell? ⟨w.heap.size, 1, none⟩ = some (.int .i64 s.step) := p2.c 1 _ rfl
  have d0 : u2.cell? ⟨w.heap.size + 1, 0, none⟩ = some (.int .i64 s.kind) := q2.c 0 _ rfl
  have d1 : u2.cell? ⟨w.heap.size + 1, 1, none⟩ = some (.int .i64 s.step) := q2.c 1 _ rfl
  have hc : CV u2 w.heap.size 2 [.int .i64 s.tk, .int .i64 s.ta] := p2.c.part 2 2
  have hd : CV u2 (w.heap.size + 1) 2 [.int .i64 s.tk, .int .i64 s.ta] := q2.c.part 2 2
  go_wp2_with (first
    | refine wpList_loadG Tryz.isAgg62 Tryz.sizeOf62 _ rfl rfl rfl rfl hc ?_
    | refine wpList_loadG Tryz.isAgg62 Tryz.sizeOf62 _ rfl rfl rfl rfl hd ?_)
  clear c0 c1 d0 d1 hc hd
  refine (eqAddr_any _ ⟨s.tk, s.ta⟩ ⟨s.tk, s.ta⟩).mono ?_
  rw [decide_eq_true rfl]
  rintro e3 u3 ⟨rfl, g3⟩
  have G3 := G2.trans (g3.mono (by omega))
  clear g3 G2 p2 q2
  go_wp2
  go_ret
  exact ⟨rfl, G3⟩

set_option maxHeartbeats 4000000 in
theorem eqTransS_same (w : World) (lo hi lo' hi' : Nat) (va vb : Value) (ps : List TransD) (ha : TR w lo hi va ps) (hb' : TR w lo' hi' vb ps) (hhi : hi ≤ w.heap.size) (hhi' : hi' ≤ w.heap.size) :
    Calls Tryz.prog 46 #[va, vb] w fun e w' => e = .returned (.bool true) ∧ Below w.heap.size w w' := by
  obtain ⟨ad, cap, rfl, h1, h2⟩ := ha.shape
  obtain ⟨ad', cap', rfl, h1', h2'⟩ := hb'.shape
  have HK : Hid (TR w lo hi (.slice ad ps.length cap) ps ∧ TR w lo' hi' (.slice ad' ps.length cap') ps) := ⟨ha, hb'⟩
  clear ha hb'
  unfold maxLen at h2 h2'
  have hl2 : ((ps.length : Int) != (ps.length : Int)) = false := by simp
  go_enter Tryz.func46, Tryz.ntmps46
  go_wp2_with fail
  go_loopw [5] (fun i wr => ∃ j : Nat, j ≤ ps.length ∧ i = .int .i64 j ∧ Below w.heap.size w wr) (fun i _ => ps.length - (intOf i).toNat)
  case atStart => exact ⟨0, Nat.zero_le _, rfl, Below.refl _ _⟩
  case round =>
    obtain ⟨j, hj, rfl, hb⟩ := hrel
    have hsz := hb.size
    by_cases hlt : j < ps.length
    · obtain ⟨x, hx⟩ : ∃ x, ps[j]? = some x := ⟨ps[j], List.getElem?_eq_getElem hlt⟩
      obtain ⟨b, off, capx, x1, y1, s1, hv, hb1, hb2, h5, k5⟩ := HK.out.1.at_ hx
      obtain ⟨b', off', capy, x2, y2, s2, hv', hb1', hb2', h5', k5'⟩ := HK.out.2.at_ hx
      simp only [Value.slice.injEq, true_and] at hv hv'
      obtain ⟨rfl, rfl⟩ := hv
      obtain ⟨rfl, rfl⟩ := hv'
      have h5 : CV w b (off + j * 7) (transC x1 y1 x.e s1) := h5
      have h5' : CV w b' (off' + j * 7) (transC x2 y2 x.e s2) := h5'
      have KK : Hid (WayR w lo hi x1 y1 s1 x ∧ WayR w lo' hi' x2 y2 s2 x) := ⟨k5, k5'⟩
      clear k5 k5'
      clear hx
      go_wp2_with fail
      refine wp_region_dag (R := Grow) (Φ := fun i v u => match i with
          | 0 => v = .slice (some ⟨b, off, none⟩) ps.length cap
          | 1 => v = .int .i64 j
          | 2 => v = .pointer (some ⟨b, off + j * 7, none⟩)
          | 3 => v = .agg (transC x1 y1 x.e s1).toArray
          | 4 => v = .slice (some ⟨b', off', none⟩) ps.length cap'
          | 5 => v = .int .i64 j
          | 6 => v = .pointer (some ⟨b', off' + j * 7, none⟩)
          | 7 => v = .agg (transC x2 y2 x.e s2).toArray
          | 8 => v = .bool true
          | 9 => v = .bool false
          | _ => True) (by kernel_rfl) (by kernel_rfl) (by kernel_rfl) (Below.refl _ _) grow_trans ?_ ?_ ?_
      · intro i v u u' hr
        match i with
        | 0 | 1 | 2 | 3 | 4 | 5 | 6 | 7 | 8 | 9 | _ + 10 => exact fun h => h
      · intro i o ho a u hf hR0 he K' hK
        have hR : Grow wr u := (Below.drew (Below.refl _ _)).trans hR0
        have hsz' : a.tmps.size = 27 := hf.size
        have hus : wr.heap.size ≤ u.heap.size := hR.size
        rcases i with _ | _ | _ | _ | _ | _ | _ | _ | _ | _ | i
        · obtain rfl := Option.some.inj ho
          have q0 : a.tmps.getD 0 undef = .slice (some ⟨b, off, none⟩) ps.length cap := hf.at_ 0 (by kernel_rfl)
          clear he
          go_simp
          exact hK _ _ (Below.refl _ _) (getD_put_self a 17 _ (by show _ < a.tmps.size; omega))
        · obtain rfl := Option.some.inj ho
          have q5 : a.tmps.getD 5 undef = .int .i64 j := hf.at_ 5 (by kernel_rfl)
          clear he
          go_simp
          exact hK _ _ (Below.refl _ _) (getD_put_self a 18 _ (by show _ < a.tmps.size; omega))
        · obtain rfl := Option.some.inj ho
          have q17 : a.tmps.getD 17 undef = .slice (some ⟨b, off, none⟩) ps.length cap := he _ (Array.mem_of_getElem? (i := 0) rfl) (by kernel_rfl) _ rfl
          have q18 : a.tmps.getD 18 undef = .int .i64 j := he _ (Array.mem_of_getElem? (i := 1) rfl) (by kernel_rfl) _ rfl
          clear he
          go_simp
          exact hK _ _ (Below.refl _ _) (getD_put_self a 19 _ (by show _ < a.tmps.size; omega))
        · obtain rfl := Option.some.inj ho
          have q19 : a.tmps.getD 19 undef = .pointer (some ⟨b, off + j * 7, none⟩) := he _ (Array.mem_of_getElem? (i := 0) rfl) (by kernel_rfl) _ rfl
          clear he
          refine wantedG rfl (wp_loadG Tryz.isAgg67 Tryz.sizeOf67 (vs := transC x1 y1 x.e s1) _ rfl q19 rfl (h5.kept ((hb.trans (hR.mono hsz)).block b (by omega))) ?_)
          exact hK _ _ (Below.refl _ _) (getD_put_self a 20 _ (by show _ < a.tmps.size; omega))
        · obtain rfl := Option.some.inj ho
          have q1 : a.tmps.getD 1 undef = .slice (some ⟨b', off', none⟩) ps.length cap' := hf.at_ 1 (by kernel_rfl)
          clear he
          go_simp
          exact hK _ _ (Below.refl _ _) (getD_put_self a 21 _ (by show _ < a.tmps.size; omega))
        · obtain rfl := Option.some.inj ho
          have q5 : a.tmps.getD 5 undef = .int .i64 j := hf.at_ 5 (by kernel_rfl)
          clear he
          go_simp
          exact hK _ _ (Below.refl _ _) (getD_put_self a 22 _ (by show _ < a.tmps.size; omega))
        · obtain rfl := Option.some.inj ho
          have q21 : a.tmps.getD 21 undef = .slice (some ⟨b', off', none⟩) ps.length cap' := he _ (Array.mem_of_getElem? (i := 0) rfl) (by kernel_rfl) _ rfl
          have q22 : a.tmps.getD 22 undef = .int .i64 j := he _ (Array.mem_of_getElem? (i := 1) rfl) (by kernel_rfl) _ rfl
          clear he
          go_simp
          exact hK _ _ (Below.refl _ _) (getD_put_self a 23 _ (by show _ < a.tmps.size; omega))
        · obtain rfl := Option.some.inj ho
          have q23 : a.tmps.getD 23 undef = .pointer (some ⟨b', off' + j * 7, none⟩) := he _ (Array.mem_of_getElem? (i := 0) rfl) (by kernel_rfl) _ rfl
          clear he
          refine wantedG rfl (wp_loadG Tryz.isAgg67 Tryz.sizeOf67 (vs := transC x2 y2 x.e s2) _ rfl q23 rfl (h5'.kept ((hb.trans (hR.mono hsz)).block b' (by omega))) ?_)
          exact hK _ _ (Below.refl _ _) (getD_put_self a 24 _ (by show _ < a.tmps.size; omega))
        · obtain rfl := Option.some.inj ho
          have q20 : a.tmps.getD 20 undef = .agg (transC x1 y1 x.e s1).toArray := he _ (Array.mem_of_getElem? (i := 0) rfl) (by kernel_rfl) _ rfl
          have q24 : a.tmps.getD 24 undef = .agg (transC x2 y2 x.e s2).toArray := he _ (Array.mem_of_getElem? (i := 1) rfl) (by kernel_rfl) _ rfl
          clear he
          go_simp
          refine (eqTrans_same u lo hi lo' hi' _ _ _ _ _ _ x (KK.out.1.under (hb.trans (hR.mono hsz)) hhi) (KK.out.2.under (hb.trans (hR.mono hsz)) hhi') (by omega) (by omega)).mono ?_
          rintro e1 u' ⟨rfl, hbu⟩
          exact hK _ _ hbu (getD_put_self a 25 _ (by show _ < a.tmps.size; omega))
        · obtain rfl := Option.some.inj ho
          have q25 : a.tmps.getD 25 undef = .bool true := he _ (Array.mem_of_getElem? (i := 0) rfl) (by kernel_rfl) _ rfl
          clear he
          go_simp
          exact hK _ _ (Below.refl _ _) (getD_put_self a 26 _ (by show _ < a.tmps.size; omega))
        · exact absurd ho (by simp)
      · intro a u hf hR0 hp
        have hR : Grow wr u := (Below.drew (Below.refl _ _)).trans hR0
        have md : a.defers = [] := hf.defers
        have m0 : a.tmps.getD 0 undef = .slice (some ⟨b, off, none⟩) ps.length cap := hf.at_ 0 (by kernel_rfl)
        have m1 : a.tmps.getD 1 undef = .slice (some ⟨b', off', none⟩) ps.length cap' := hf.at_ 1 (by kernel_rfl)
        have m2 : a.tmps.getD 2 undef = undef := hf.at_ 2 (by kernel_rfl)
        have m3 : a.tmps.getD 3 undef = undef := hf.at_ 3 (by kernel_rfl)
        have m5 : a.tmps.getD 5 undef = .int .i64 j := hf.at_ 5 (by kernel_rfl)
        have m6 : a.tmps.getD 6 undef = .slice (some ⟨b, off, none⟩) ps.length cap := hf.at_ 6 (by kernel_rfl)
        have m7 : a.tmps.getD 7 undef = .int .i64 ps.length := hf.at_ 7 (by kernel_rfl)
        have m8 : a.tmps.getD 8 undef = .slice (some ⟨b', off', none⟩) ps.length cap' := hf.at_ 8 (by kernel_rfl)
        have m9 : a.tmps.getD 9 undef = .int .i64 ps.length := hf.at_ 9 (by kernel_rfl)
        have m10 : a.tmps.getD 10 undef = .bool false := hf.at_ 10 (by kernel_rfl)
        have m26 : a.tmps.getD 26 undef = .bool false := hp 9 _ rfl
        obtain ⟨f, ea, hfv⟩ := act_lit a 27 hf.size
        rw [← hfv] at m0 m1 m2 m3 m5 m6 m7 m8 m9 m10 m26
        rw [md] at ea
        simp only [List.range, List.range.loop, List.map_cons, List.map_nil, m0, m1, m2, m3, m5, m6, m7, m8, m9, m10, m26] at ea
        subst ea
        clear hfv hf md hp hR0
        clear h5 h5'
        go_wp2
        go_roundw
        case rel => exact ⟨j + 1, by omega, by go_num, hb.trans (hR.mono hsz)⟩
        case measure => simp [intOf]; omega
    · obtain rfl : j = ps.length := by omega
      go_wp2
      go_ret
      exact ⟨rfl, hb⟩

set_option maxHeartbeats 4000000 in
theorem eqActS_same (w : World) (lo hi lo' hi' : Nat) (va vb : Value) (ps : List ActD) (ha : GR actE w lo hi va ps) (hb' : GR actE w lo' hi' vb ps) (hhi : hi ≤ w.heap.size) (hhi' : hi' ≤ w.heap.size) :
    Calls Tryz.prog 47 #[va, vb] w fun e w' => e = .returned (.bool true) ∧ Below w.heap.size w w' := by
  obtain ⟨ad, cap, rfl, h1, h2⟩ := ha.shape
  obtain ⟨ad', cap', rfl, h1', h2'⟩ := hb'.shape
  have HK : Hid (GR actE w lo hi (.slice ad ps.length cap) ps ∧ GR actE w lo' hi' (.slice ad' ps.length cap') ps) := ⟨ha, hb'⟩
  clear ha hb'
  unfold maxLen at h2 h2'
  have hl2 : ((ps.length : Int) != (ps.length : Int)) = false := by simp
  go_enter Tryz.func47, Tryz.ntmps47
  go_wp2_with fail
  go_loopw [5] (fun i wr => ∃ j : Nat, j ≤ ps.length ∧ i = .int .i64 j ∧ Below w.heap.size w wr) (fun i _ => ps.length - (intOf i).toNat)
  case atStart => exact ⟨0, Nat.zero_le _, rfl, Below.refl _ _⟩
  case round =>
    obtain ⟨j, hj, rfl, hb⟩ := hrel
    have hsz := hb.size
    by_cases hlt : j < ps.length
    · obtain ⟨x, hx⟩ : ∃ x, ps[j]? = some x := ⟨ps[j], List.getElem?_eq_getElem hlt⟩
      obtain ⟨b, off, capx, hv, hb1, hb2, h5⟩ := HK.out.1.at_ hx
      obtain ⟨b', off', capy, hv', hb1', hb2', h5'⟩ := HK.out.2.at_ hx
      simp only [Value.slice.injEq, true_and] at hv hv'
      obtain ⟨rfl, rfl⟩ := hv
      obtain ⟨rfl, rfl⟩ := hv'
      have h5 : CV w b (off + j * 4) (actC x) := h5
      have h5' : CV w b' (off' + j * 4) (actC x) := h5'
      clear hx
      go_wp2_with fail
      refine wp_region_dag (R := Grow) (Φ := fun i v u => match i with
          | 0 => v = .slice (some ⟨b, off, none⟩) ps.length cap
          | 1 => v = .int .i64 j
          | 2 => v = .pointer (some ⟨b, off + j * 4, none⟩)
          | 3 => v = .agg (actC x).toArray
          | 4 => v = .slice (some ⟨b', off', none⟩) ps.length cap'
          | 5 => v = .int .i64 j
          | 6 => v = .pointer (some ⟨b', off' + j * 4, none⟩)
          | 7 => v = .agg (actC x).toArray
          | 8 => v = .bool true
          | 9 => v = .bool false
          | _ => True) (by kernel_rfl) (by kernel_rfl) (by kernel_rfl) (Below.refl _ _) grow_trans ?_ ?_ ?_
      · intro i v u u' hr
        match i with
        | 0 | 1 | 2 | 3 | 4 | 5 | 6 | 7 | 8 | 9 | _ + 10 => exact fun h => h
      · intro i o ho a u hf hR0 he K' hK
        have hR : Grow wr u := (Below.drew (Below.refl _ _)).trans hR0
        have hsz' : a.tmps.size = 27 := hf.size
        have hus : wr.heap.size ≤ u.heap.size := hR.size
        rcases i with _ | _ | _ | _ | _ | _ | _ | _ | _ | _ | i
        · obtain rfl := Option.some.inj ho
          have q0 : a.tmps.getD 0 undef = .slice (some ⟨b, off, none⟩) ps.length cap := hf.at_ 0 (by kernel_rfl)
          clear he
          go_simp
          exact hK _ _ (Below.refl _ _) (getD_put_self a 17 _ (by show _ < a.tmps.size; omega))
        · obtain rfl := Option.some.inj ho
          have q5 : a.tmps.getD 5 undef = .int .i64 j := hf.at_ 5 (by kernel_rfl)
          clear he
          go_simp
          exact hK _ _ (Below.refl _ _) (getD_put_self a 18 _ (by show _ < a.tmps.size; omega))
        · obtain rfl := Option.some.inj ho
          have q17 : a.tmps.getD 17 undef = .slice (some ⟨b, off, none⟩) ps.length cap := he _ (Array.mem_of_getElem? (i := 0) rfl) (by kernel_rfl) _ rfl
          have q18 : a.tmps.getD 18 undef = .int .i64 j := he _ (Array.mem_of_getElem? (i := 1) rfl) (by kernel_rfl) _ rfl
          clear he
          go_simp
          exact hK _ _ (Below.refl _ _) (getD_put_self a 19 _ (by show _ < a.tmps.size; omega))
        · obtain rfl := Option.some.inj ho
          have q19 : a.tmps.getD 19 undef = .pointer (some ⟨b, off + j * 4, none⟩) := he _ (Array.mem_of_getElem? (i := 0) rfl) (by kernel_rfl) _ rfl
          clear he
          refine wantedG rfl (wp_loadG Tryz.isAgg96 Tryz.sizeOf96 (vs := actC x) _ rfl q19 rfl (h5.kept ((hb.trans (hR.mono hsz)).block b (by omega))) ?_)
          exact hK _ _ (Below.refl _ _) (getD_put_self a 20 _ (by show _ < a.tmps.size; omega))
        · obtain rfl := Option.some.inj ho
          have q1 : a.tmps.getD 1 undef = .slice (some ⟨b', off', none⟩) ps.length cap' := hf.at_ 1 (by kernel_rfl)
          clear he
          go_simp
          exact hK _ _ (Below.refl _ _) (getD_put_self a 21 _ (by show _ < a.tmps.size; omega))
        · obtain rfl := Option.some.inj ho
          have q5 : a.tmps.getD 5 undef = .int .i64 j := hf.at_ 5 (by kernel_rfl)
          clear he
          go_simp
          exact hK _ _ (Below.refl _ _) (getD_put_self a 22 _ (by show _ < a.tmps.size; omega))
        · obtain rfl := Option.some.inj ho
          have q21 : a.tmps.getD 21 undef = .slice (some ⟨b', off', none⟩) ps.length cap' := he _ (Array.mem_of_getElem? (i := 0) rfl) (by kernel_rfl) _ rfl
          have q22 : a.tmps.getD 22 undef = .int .i64 j := he _ (Array.mem_of_getElem? (i := 1) rfl) (by kernel_rfl) _ rfl
          clear he
          go_simp
          exact hK _ _ (Below.refl _ _) (getD_put_self a 23 _ (by show _ < a.tmps.size; omega))
        · obtain rfl := Option.some.inj ho
          have q23 : a.tmps.getD 23 undef = .pointer (some ⟨b', off' + j * 4, none⟩) := he _ (Array.mem_of_getElem? (i := 0) rfl) (by kernel_rfl) _ rfl
          clear he
          refine wantedG rfl (wp_loadG Tryz.isAgg96 Tryz.sizeOf96 (vs := actC x) _ rfl q23 rfl (h5'.kept ((hb.trans (hR.mono hsz)).block b' (by omega))) ?_)
          exact hK _ _ (Below.refl _ _) (getD_put_self a 24 _ (by show _ < a.tmps.size; omega))
        · obtain rfl := Option.some.inj ho
          have q20 : a.tmps.getD 20 undef = .agg (actC x).toArray := he _ (Array.mem_of_getElem? (i := 0) rfl) (by kernel_rfl) _ rfl
          have q24 : a.tmps.getD 24 undef = .agg (actC x).toArray := he _ (Array.mem_of_getElem? (i := 1) rfl) (by kernel_rfl) _ rfl
          clear he
          go_simp
          refine (eqAct_same u x).mono ?_
          rintro e1 u' ⟨rfl, hbu⟩
          exact hK _ _ hbu (getD_put_self a 25 _ (by show _ < a.tmps.size; omega))
        · obtain rfl := Option.some.inj ho
          have q25 : a.tmps.getD 25 undef = .bool true := he _ (Array.mem_of_getElem? (i := 0) rfl) (by kernel_rfl) _ rfl
          clear he
          go_simp
          exact hK _ _ (Below.refl _ _) (getD_put_self a 26 _ (by show _ < a.tmps.size; omega))
        · exact absurd ho (by simp)
      · intro a u hf hR0 hp
        have hR : Grow wr u := (Below.drew (Below.refl _ _)).trans hR0
        have md : a.defers = [] := hf.defers
        have m0 : a.tmps.getD 0 undef = .slice (some ⟨b, off, none⟩) ps.length cap := hf.at_ 0 (by kernel_rfl)
        have m1 : a.tmps.getD 1 undef = .slice (some ⟨b', off', none⟩) ps.length cap' := hf.at_ 1 (by kernel_rfl)
        have m2 : a.tmps.getD 2 undef = undef := hf.at_ 2 (by kernel_rfl)
        have m3 : a.tmps.getD 3 undef = undef := hf.at_ 3 (by kernel_rfl)
        have m5 : a.tmps.getD 5 undef = .int .i64 j := hf.at_ 5 (by kernel_rfl)
        have m6 : a.tmps.getD 6 undef = .slice (some ⟨b, off, none⟩) ps.length cap := hf.at_ 6 (by kernel_rfl)
        have m7 : a.tmps.getD 7 undef = .int .i64 ps.length := hf.at_ 7 (by kernel_rfl)
        have m8 : a.tmps.getD 8 undef = .slice (some ⟨b', off', none⟩) ps.length cap' := hf.at_ 8 (by kernel_rfl)
        have m9 : a.tmps.getD 9 undef = .int .i64 ps.length := hf.at_ 9 (by kernel_rfl)
        have m10 : a.tmps.getD 10 undef = .bool false := hf.at_ 10 (by kernel_rfl)
        have m26 : a.tmps.getD 26 undef = .bool false := hp 9 _ rfl
        obtain ⟨f, ea, hfv⟩ := act_lit a 27 hf.size
        rw [← hfv] at m0 m1 m2 m3 m5 m6 m7 m8 m9 m10 m26
        rw [md] at ea
        simp only [List.range, List.range.loop, List.map_cons, List.map_nil, m0, m1, m2, m3, m5, m6, m7, m8, m9, m10, m26] at ea
        subst ea
        clear hfv hf md hp hR0
        clear h5 h5'
        go_wp2
        go_roundw
        case rel => exact ⟨j + 1, by omega, by go_num, hb.trans (hR.mono hsz)⟩
        case measure => simp [intOf]; omega
    · obtain rfl : j = ps.length := by omega
      go_wp2
      go_ret
      exact ⟨rfl, hb⟩

set_option maxHeartbeats 2000000 in
theorem eqChart_same (w : World) (lo hi lo' hi' : Nat) (va vb : Value) (c : ChartD) (ha : HIc w lo hi va c) (hb : HIc w lo' hi' vb c) (hhi : hi ≤ w.heap.size) (hhi' : hi' ≤ w.heap.size) :
    Calls Tryz.prog 16 #[va, vb] w fun e w' => e = .returned (.bool true) ∧ Below w.heap.size w w' := by
  obtain ⟨xa, xb, rfl, hxa, hxb⟩ := ha
  obtain ⟨ya, yb, rfl, hya, hyb⟩ := hb
  obtain ⟨ad1, cap1, rfl, _, _⟩ := hxa.shape
  obtain ⟨ad2, cap2, rfl, _, _⟩ := hxb.shape
  obtain ⟨ad3, cap3, rfl, _, _⟩ := hya.shape
  obtain ⟨ad4, cap4, rfl, _, _⟩ := hyb.shape
  have HK : Hid ((TR w lo hi (.slice ad1 c.ts.length cap1) c.ts ∧ GR actE w lo hi (.slice ad2 c.acts.length cap2) c.acts) ∧ (TR w lo' hi' (.slice ad3 c.ts.length cap3) c.ts ∧ GR actE w lo' hi' (.slice ad4 c.acts.length cap4) c.acts)) := ⟨⟨hxa, hxb⟩, hya, hyb⟩
  clear hxa hxb hya hyb
  have e1 : (c.steps != c.steps) = false := by simp
  go_enter Tryz.func16, Tryz.ntmps16
  go_wp2_with (refine wpList_boxG (vs := [.int .i64 c.steps, .slice ad1 c.ts.length cap1, .slice ad2 c.acts.length cap2]) rfl _ rfl rfl ?_)
  intro u1 g1 p1 s1
  go_wp2_with (refine wpList_boxG (vs := [.int .i64 c.steps, .slice ad3 c.ts.length cap3, .slice ad4 c.acts.length cap4]) rfl _ rfl rfl ?_)
  intro u2 g2 q2 s2
  have p2 := p1.below g2 (by omega)
  have G2 := g1.trans (g2.mono (by omega))
  clear g1 g2 p1
  have b0 : u2.cell? ⟨w.heap.size, 0, none⟩ = some (.int .i64 c.steps) := p2.c 0 _ rfl
  have b1 : u2.cell? ⟨w.heap.size + 1, 0, none⟩ = some (.int .i64 c.steps) := q2.c 0 _ rfl
  have c0 : u2.cell? ⟨w.heap.size, 1, none⟩ = some (.slice ad1 c.ts.length cap1) := p2.c 1 _ rfl
  have d0 : u2.cell? ⟨w.heap.size + 1, 1, none⟩ = some (.slice ad3 c.ts.length cap3) := q2.c 1 _ rfl
  go_wp2_with fail
  clear c0 d0 b0 b1
  refine (eqTransS_same _ _ _ _ _ _ _ c.ts (HK.out.1.1.under G2 hhi) (HK.out.2.1.under G2 hhi') (by omega) (by omega)).mono ?_
  rintro e3 u3 ⟨rfl, g3⟩
  have z3 := g3.size
  have c1 : u3.cell? ⟨w.heap.size, 2, none⟩ = some (.slice ad2 c.acts.length cap2) := (p2.below g3 (by omega)).c 2 _ rfl
  have d1 : u3.cell? ⟨w.heap.size + 1, 2, none⟩ = some (.slice ad4 c.acts.length cap4) := (q2.below g3 (by omega)).c 2 _ rfl
  have G3 := G2.trans (g3.mono (by omega))
  clear g3 G2 p2 q2
  go_wp2_with fail
  clear c1 d1
  refine (eqActS_same _ _ _ _ _ _ _ c.acts (HK.out.1.2.under G3 hhi) (HK.out.2.2.under G3 hhi') (by omega) (by omega)).mono ?_
  rintro e4 u4 ⟨rfl, g4⟩
  have G4 := G3.trans (g4.mono (by omega))
  clear g4 G3
  go_wp2
  go_ret
  exact ⟨rfl, G4⟩

end Go.Proofs.YtokphdpaghkakaaGreat

/-
  Variables of three cells of a law; what the laws' helpers do with charts.
-/
namespace Go.Proofs.YtokphdpaghkakaaGreat
open Go.ChangeShapes Go.WideShapes Go.ChangeAt Go.RowKit
set_option linter.unusedVariables false

/-- A variable of three cells. -/
structure BxT (w : World) (B : Nat) (x y z : Value) : Prop where
  c0 : w.cell? ⟨B, 0, none⟩ = some x
  c1 : w.cell? ⟨B, 1, none⟩ = some y
  c2 : w.cell? ⟨B, 2, none⟩ = some z

theorem BxT.below {w w' : World} {B n : Nat} {x y z : Value} (h : BxT w B x y z) (hb : Below n w w') (hB : B < n) : BxT w' B x y z :=
  ⟨by rw [hb.cell (p := ⟨B, 0, none⟩) hB]; exact h.c0, by rw [hb.cell (p := ⟨B, 1, none⟩) hB]; exact h.c1, by rw [hb.cell (p := ⟨B, 2, none⟩) hB]; exact h.c2⟩
theorem bxt_new (w : World) (x y z : Value) (t : TypeId) : BxT (w.alloc (.cells #[x, y, z] t)) w.heap.size x y z :=
  ⟨World.cell?_alloc_new _ _ _ _, World.cell?_alloc_new _ _ _ _, World.cell?_alloc_new _ _ _ _⟩
end Go.Proofs.YtokphdpaghkakaaGreat

/-
  A list of numbers that is appended to an empty one: the answer owns new memory.
-/
namespace Go.Proofs.YtokphdpaghkakaaGreat
open Go.ChangeShapes Go.WideShapes Go.ChangeAt Go.RowKit
set_option linter.unusedVariables false

/-- What owns a row owns its numbers. -/
theorem oi_of_owns {w : World} {base : Nat} {v : Value} {xs : List Int} (h : w.ownsRow base 3 1 v xs.length (xs.map (Value.int .i64))) : OI w base w.heap.size v xs := by
  rcases h.2 with ⟨hv, hn⟩ | ⟨g, cap, cur, rfl, hb, hh, hc, hm, _⟩
  · exact .inl ⟨List.eq_nil_of_length_eq_zero hn, none, 0, hv, Nat.zero_le _⟩
  · refine .inr ⟨g, 0, cap, rfl, hc, hm, hb, (Array.getElem?_eq_some_iff.mp hh).1, fun i x hx => ?_, fun i => h.frozenAt _⟩
    have hi : i < xs.length := (List.getElem?_eq_some_iff.mp hx).1
    rw [Nat.zero_add, h.cellAt i (by omega), List.getElem?_map, hx]
    rfl

theorem below_grown {w w' : World} (h : w.grownBy w' none) : Below w.heap.size w w' :=
  (Below.refl _ _).grown h (Nat.le_refl _) (fun k h => by cases h)

/-- 'append([]int{}, xs...)', as one step of a region that draws its order. -/
theorem step_copy {ops : Array Oper} {o : Oper} {a : Act} {u : World} {K : Act → World → Prop} {Q : Exit → Act → World → Prop} {E : Prop}
    (hg : o.guard = none) (s x : Operand) (hop : o.op = Op.call { callee := Callee.builtin Builtin.append, args := #[s, x], argTypes := #[29, 29] })
    {y : Option Addr} (hs : a.eval s = .slice y 0 0) {v : Value} (hx : a.eval x = v) {lo hi : Nat} {xs : List Int} (hv : SI u lo hi v xs) (hn : xs.length ≤ 1048576)
    (hK : ∀ v' u', OI u' u.heap.size u'.heap.size v' xs → Below u.heap.size u u' → K (a.put o.dst v') u') :
    if Region.wanted o (yielded ops a.tmps) = true then Oper.wp Tryz.prog o a u K Q else E := by
  obtain ⟨ad, cap, rfl, h1, h2, h3⟩ := hv
  obtain ⟨i0, hi0, hz0, hz1, hz2⟩ := info_parts info_int
  by_cases he : xs = []
  · subst he
    rw [if_pos (by simp [Region.wanted, hg])]
    have hK' := hK (.slice y 0 0) u (.inl ⟨rfl, y, 0, rfl, Nat.zero_le _⟩) (Below.refl _ _)
    have hsrc : Src Tryz.prog i0.size 29 (.slice ad 0 cap) 0 [] u := by
      cases ad with
      | none => exact Src.ofNil _ Tryz.underlying29 cap
      | some x => exact Src.ofSlice _ Tryz.underlying29 x 0 cap [] (by simp) (fun j u h => by simp at h) (fun u h => by simp at h)
    have hrun := run_append_nothing (P := Tryz.prog) u 29 29 o.type 3 i0 Tryz.underlying29 hi0 y 0 0 (Nat.le_refl _) _ hsrc
    unfold Oper.wp
    simp only [List.length_nil] at hx
    simp [execOp, hop, resolve, invoke, builtin, hs, hx, hrun, Result.andThen]
    exact hK'
  · rcases h3 with h0 | ⟨b, off, rfl, _, _, hc⟩
    · exact absurd h0 he
    have hpos : 0 < xs.length := List.length_pos_iff.mpr he
    refine step_append_grows hg s x 29 hop 3 i0 (.int .i64 0) 1 8 Tryz.underlying29 hi0 hz0 hz1 hz2 rfl (by decide) y 0 0 [] hs (fun _ => ⟨rfl, rfl⟩) rfl (fun _ _ j u h => by simp at h) ⟨b, off, none⟩ xs.length cap (xs.map (Value.int .i64)) hx (by simp) ?_ ?_ (by omega) (by unfold maxLen; omega) (by omega) ?_
    · intro j z hz
      rw [List.getElem?_map] at hz
      cases hj : xs[j]? with
      | none => rw [hj] at hz; cases hz
      | some q =>
        rw [hj] at hz
        cases hz
        have := hc j q hj
        unfold Addr.add
        split
        · rename_i h; subst h; simpa using this
        · exact this
    · intro z hz
      obtain ⟨q, _, rfl⟩ := List.mem_map.mp hz
      rfl
    · intro v' u' hown hgrow
      rw [Nat.zero_add, List.nil_append] at hown
      exact hK v' u' (oi_of_owns hown) (below_grown hgrow)
end Go.Proofs.YtokphdpaghkakaaGreat

/-
  Numbers that are held: a row of one's own that is cut at its end and appended to, in place where there is room.
-/
namespace Go.Proofs.YtokphdpaghkakaaGreat
open Go.ChangeShapes Go.WideShapes Go.ChangeAt Go.RowKit
set_option linter.unusedVariables false

/-- The cells of numbers. -/
def rowZ (xs : List Int) : List Value := xs.map (Value.int .i64)

theorem rowZ_length (xs : List Int) : (rowZ xs).length = xs.length := by simp [rowZ]

/-- Numbers in a row of one's own, from base on. -/
def RowZ (w : World) (base : Nat) (v : Value) (xs : List Int) : Prop := w.ownsRow base 3 1 v xs.length (rowZ xs)

theorem RowZ.lt {w : World} {base : Nat} {v : Value} {xs : List Int} (h : RowZ w base v xs) : ∀ k, v.ownBlock = some k → base ≤ k ∧ k < w.heap.size := World.ownsRow.lt h

theorem RowZ.shape {w : World} {base : Nat} {v : Value} {xs : List Int} (h : RowZ w base v xs) : ∃ ad cap, v = .slice ad xs.length cap ∧ xs.length ≤ cap ∧ cap ≤ maxLen := by
  rcases h.2 with ⟨rfl, hn⟩ | ⟨g, cap, cur, rfl, hb, hh, hc, hm, _⟩
  · exact ⟨none, 0, by rw [hn], by omega, Nat.zero_le _⟩
  · exact ⟨_, cap, rfl, hc, hm⟩

/-- Where there is a number the row has a block. -/
theorem RowZ.block {w : World} {base : Nat} {v : Value} {xs : List Int} (h : RowZ w base v xs) (hx : 0 < xs.length) : ∃ g cap, v = .slice (some ⟨g, 0, none⟩) xs.length cap ∧ xs.length ≤ cap ∧ cap ≤ maxLen ∧ base ≤ g ∧ g < w.heap.size ∧ ∀ (i : Nat) (x : Int), xs[i]? = some x → w.cell? ⟨g, i, none⟩ = some (.int .i64 x) := by
  have h0 := h
  rcases h.2 with ⟨rfl, hn⟩ | ⟨g, cap, cur, rfl, hb, hh, hc, hm, _⟩
  · omega
  · refine ⟨g, cap, rfl, hc, hm, hb, (Array.getElem?_eq_some_iff.mp hh).1, fun i x hi => ?_⟩
    have hil : i < xs.length := (List.getElem?_eq_some_iff.mp hi).1
    rw [World.ownsRow.cellAt h0 _ (by omega)]
    unfold rowZ
    rw [List.getElem?_map, hi]; rfl

theorem RowZ.at_ {w w' : World} {base : Nat} {v : Value} {xs : List Int} (h : RowZ w base v xs) (hk : ∀ g, v.ownBlock = some g → w'.heap[g]? = w.heap[g]?) : RowZ w' base v xs := by
  refine ⟨h.1, ?_⟩
  rcases h.2 with ⟨rfl, hn⟩ | ⟨g, cap, cur, rfl, hb, hh, r⟩
  · exact .inl ⟨rfl, hn⟩
  · exact .inr ⟨g, cap, cur, rfl, hb, by rw [hk g rfl]; exact hh, r⟩

theorem RowZ.below {w w' : World} {base n : Nat} {v : Value} {xs : List Int} (h : RowZ w base v xs) (hb : Below n w w') (hn : w.heap.size ≤ n) : RowZ w' base v xs :=
  h.at_ fun g hg => hb.block g (by have := (h.lt g hg).2; omega)

theorem RowZ.mono {w : World} {base base' : Nat} {v : Value} {xs : List Int} (h : RowZ w base v xs) (hb : base' ≤ base) : RowZ w base' v xs := by
  refine ⟨h.1, ?_⟩
  rcases h.2 with ⟨rfl, hn⟩ | ⟨g, cap, cur, rfl, hb', r⟩
  · exact .inl ⟨rfl, hn⟩
  · exact .inr ⟨g, cap, cur, rfl, by omega, r⟩

/-- It is cut at its end: what was behind stays in the spare room. -/
theorem RowZ.cut {w : World} {base : Nat} {ad : Option Go.Addr} {cap n : Nat} {xs : List Int} (h : RowZ w base (.slice ad n cap) xs) (k : Nat) (hk : k ≤ xs.length) : RowZ w base (.slice ad k cap) (xs.take k) := by
  have hl : (xs.take k).length = k := by rw [List.length_take]; omega
  refine ⟨by rw [rowZ_length]; omega, ?_⟩
  rw [hl]
  rcases h.2 with ⟨hv, hn⟩ | ⟨g, cap', cur, hv, hb, hh, hc, hm, hs, ht⟩
  · simp only [Value.slice.injEq] at hv
    obtain ⟨rfl, rfl, rfl⟩ := hv
    exact .inl ⟨by congr 1; omega, by omega⟩
  · simp only [Value.slice.injEq] at hv
    obtain ⟨rfl, rfl, rfl⟩ := hv
    refine .inr ⟨g, cap, cur, rfl, hb, hh, by omega, hm, hs, ?_⟩
    unfold rowZ at *
    rw [Nat.mul_one] at ht ⊢
    rw [List.map_take, ← ht, List.take_take, Nat.min_eq_left hk]

/-- No number yet, in a new block. -/
theorem rowZ_none (w : World) (base : Nat) (hb : base ≤ w.heap.size) : RowZ (w.alloc (.cells #[] 3)) base (.slice (some ⟨w.heap.size, 0, none⟩) 0 0) [] :=
  ⟨rfl, .inr ⟨w.heap.size, 0, _, rfl, hb, heap_alloc_new w _, Nat.le_refl _, Nat.zero_le _, rfl, rfl⟩⟩

/-- What an append of one number leaves. -/
structure AppZ (w : World) (base : Nat) (v : Value) (xs : List Int) (v' : Value) (w' : World) : Prop where
  row : RowZ w' base v' xs
  grown : w.grownBy w' v.ownBlock
  at_ : v'.ownBlock = v.ownBlock ∨ v'.ownBlock = some w.heap.size

theorem run_appZ (w : World) (base ty : Nat) (v : Value) (xs : List Int) (b : Nat) (x : Int) (hr : RowZ w base v xs) (hx : w.cell? ⟨b, 0, none⟩ = some (.int .i64 x)) (hb : base ≤ w.heap.size) (hn : xs.length + 1 ≤ 16777216) :
    ∃ v' w', (Builtin.append_ #[29, 29] ty #[v, .slice (some ⟨b, 0, none⟩) 1 1]).run Tryz.prog w = .ok v' w' ∧ AppZ w base v (xs ++ [x]) v' w' := by
  obtain ⟨i0, hi0, hz0, hz1, hz2⟩ := info_parts info_int
  obtain ⟨v', w', hrun, h2, h3, _, h5⟩ := run_append_own_at (P := Tryz.prog) w base 29 ty 3 i0 (.int .i64 0) 1 8 Tryz.underlying29 hi0 hz0 hz1 hz2 rfl (by decide) v xs.length (rowZ xs) hr ⟨b, 0, none⟩ 1 1 [.int .i64 x] rfl (fun j u h => by
      have hj : j = 0 := by have := (List.getElem?_eq_some_iff.mp h).1; simp at this; exact this
      subst hj
      simp at h
      rw [← h]
      exact hx) (fun u h => by simp at h; rw [h]; rfl) (by unfold maxLen; omega) (by omega) hb
  refine ⟨v', w', hrun, ⟨?_, h3, h5⟩⟩
  unfold RowZ rowZ
  rw [List.map_append, List.length_append]
  exact h2

section
variable {ops : Array Oper} {rest : List Oper} {o : Oper} {a : Act} {Q : Exit → Act → World → Prop} {K : Act → World → Prop} {w : World}

theorem step_appZ {E : Prop} (hg : o.guard = none) (s x : Operand) (hop : o.op = .call { callee := .builtin .append, args := #[s, x], argTypes := #[29, 29] })
    (base : Nat) {v : Value} {xs : List Int} {b : Nat} {z : Int} (hs : a.eval s = v) (hx : a.eval x = .slice (some ⟨b, 0, none⟩) 1 1) (hr : RowZ w base v xs) (hc : w.cell? ⟨b, 0, none⟩ = some (.int .i64 z)) (hb : base ≤ w.heap.size) (hl : xs.length + 1 ≤ 16777216)
    (hK : ∀ v' w', AppZ w base v (xs ++ [z]) v' w' → K (a.put o.dst v') w') :
    if Region.wanted o (yielded ops a.tmps) = true then Oper.wp Tryz.prog o a w K Q else E := by
  rw [if_pos (by simp [Region.wanted, hg])]
  obtain ⟨v', w', hrun, h⟩ := run_appZ w base o.type v xs b z hr hc hb hl
  unfold Oper.wp execOp
  simp only [hop, resolve, invoke, builtin, Sem.run_bind, Sem.run_pure, Result.andThen_ok, List.map_toArray, List.map_cons, List.map_nil, hs, hx, hrun]
  exact hK v' w' h
end

section
variable {ops : Array Oper} {rest : List Oper} {o : Oper} {a : Act} {Q : Exit → Act → World → Prop} {w : World}

theorem wpList_appZ (hg : o.guard = none) (s x : Operand) (hop : o.op = .call { callee := .builtin .append, args := #[s, x], argTypes := #[29, 29] })
    (base : Nat) {v : Value} {xs : List Int} {b : Nat} {z : Int} (hs : a.eval s = v) (hx : a.eval x = .slice (some ⟨b, 0, none⟩) 1 1) (hr : RowZ w base v xs) (hc : w.cell? ⟨b, 0, none⟩ = some (.int .i64 z)) (hb : base ≤ w.heap.size) (hl : xs.length + 1 ≤ 16777216)
    (hK : Hid (∀ v' w', AppZ w base v (xs ++ [z]) v' w' → wpList Tryz.prog ops Q rest (a.put o.dst v') w')) : wpList Tryz.prog ops Q (o :: rest) a w :=
  wpList_step fun _ hK' => step_appZ (E := _) hg s x hop base hs hx hr hc hb hl fun v' w' h => hK' _ _ (hK.out v' w' h)
end

theorem AppZ.below {w w' : World} {base n : Nat} {v v' : Value} {xs ys : List Int} (h : AppZ w base v xs v' w') (hr : RowZ w base v ys) (hn : n ≤ base) (hb : base ≤ w.heap.size) : Below n w w' :=
  (Below.refl n w).grown h.grown (by omega) fun k hk => by have := (hr.lt k hk).1; omega
end Go.Proofs.YtokphdpaghkakaaGreat

/-
  A piece of a block that may be written (Room), and what calls that write leave of numbers outside of it.
-/
namespace Go.Proofs.YtokphdpaghkakaaGreat
open Go.ChangeShapes Go.WideShapes Go.ChangeAt Go.RowKit
set_option linter.unusedVariables false

/-- A row that grew is numbers of one's own. -/
theorem RowZ.oi {w : World} {base : Nat} {v : Value} {xs : List Int} (h : RowZ w base v xs) : OI w base w.heap.size v xs := oi_of_owns h

/-- A piece of a block that may be written, and what has been written was written into that block. -/
structure Room (w : World) (g off m : Nat) (wr : World) : Prop where
  out : Out g (g + 1) w wr
  lt : g < wr.heap.size
  some_ : ∀ x, off ≤ x → x < off + m → (wr.cell? ⟨g, x, none⟩).isSome = true
  frozen : ∀ x, wr.frozen? ⟨g, off + x, none⟩ = false

theorem Room.fz {w wr : World} {g off m : Nat} (h : Room w g off m wr) (x : Nat) (hx : off ≤ x) : wr.frozen? ⟨g, x, none⟩ = false := by
  have := h.frozen (x - off)
  rwa [Nat.add_sub_cancel' hx] at this

theorem Room.next {w wr u : World} {g off m x : Nat} {z : Value} (h : Room w g off m wr) (hL : LaidG wr u g x [z]) : Room w g off m u := by
  have hb := hL.below 0 wr (Nat.zero_le _) (Below.refl _ _)
  refine ⟨h.out.trans ⟨hb.os, hb.tape, hb.output, by rw [hL.size]; exact Nat.le_refl _, fun q hq hr => hL.block q (by omega)⟩, by rw [hL.size]; exact h.lt, fun y h1 h2 => ?_, fun y => by rw [hL.frozen]; exact h.frozen y⟩
  by_cases e : y = x
  · subst e
    have := hL.cv 0 z rfl
    rw [Nat.add_zero] at this
    rw [this]; rfl
  · rw [hL.cell _ _ (by simp only [List.length_cons, List.length_nil]; omega)]
    exact h.some_ y h1 h2

theorem room_of {α : Type} {E : Elem α} {w : World} {hi b off : Nat} {xs : List α} (hhi : hi ≤ w.heap.size) (h4 : b < hi)
    (h5 : ∀ (i : Nat) (x : α), xs[i]? = some x → CV w b (off + i * E.k) (E.cells x)) (h6 : ∀ o, w.frozen? ⟨b, off + o, none⟩ = false) (hl : ∀ x, (E.cells x).length = E.k) (hk : 0 < E.k) : Room w b off (xs.length * E.k) w := by
  refine ⟨⟨rfl, rfl, rfl, Nat.le_refl _, fun _ _ _ => rfl⟩, by omega, fun x h1 h2 => ?_, h6⟩
  have hq : (x - off) / E.k < xs.length := by
    rw [Nat.div_lt_iff_lt_mul hk]; omega
  have hm : (x - off) % E.k < E.k := Nat.mod_lt _ hk
  have hd := Nat.div_add_mod (x - off) E.k
  have hc := h5 _ _ (List.getElem?_eq_getElem hq) ((x - off) % E.k) _ (List.getElem?_eq_getElem (by rw [hl]; exact hm))
  have e : off + (x - off) / E.k * E.k + (x - off) % E.k = x := by rw [Nat.mul_comm] at hd; omega
  rw [e] at hc
  rw [hc]; rfl

theorem Out.widen {lo hi lo' hi' : Nat} {w u : World} (h : Out lo hi w u) (h1 : lo' ≤ lo) (h2 : hi ≤ hi') : Out lo' hi' w u :=
  ⟨h.os, h.tape, h.output, h.size, fun k hk ho => h.block k hk (by omega)⟩
theorem OI.out {w w' : World} {lo hi lo' hi' : Nat} {v : Value} {xs : List Int} (h : OI w lo hi v xs) (g : Out lo' hi' w w') (h1 : hi ≤ lo' ∨ hi' ≤ lo) (hs : hi ≤ w.heap.size) : OI w' lo hi v xs :=
  h.kept fun k q1 q2 => g.block k (by omega) (by omega)
theorem OI.footR {w : World} {lo hi : Nat} {v : Value} {xs : List Int} (h : OI w lo hi v xs) {b o : Nat} (f : Foot v xs.length b o) : lo ≤ b ∧ b < hi := by
  obtain ⟨g, off, l, cap, hv, hb, h1, h2⟩ := f
  rcases h with ⟨rfl, a, c, hv', _⟩ | ⟨g', off', cap', hv', _, _, h3, h4, _⟩
  · simp at h2; omega
  · rw [hv'] at hv
    simp only [Value.slice.injEq, Option.some.injEq, Addr.mk.injEq, and_true] at hv
    obtain ⟨⟨rfl, _⟩, _⟩ := hv
    omega

theorem OI.wroteOut {w w' : World} {lo hi : Nat} {v : Value} {xs : List Int} (h : OI w lo hi v xs) (g : Wrote (Foot v xs.length) w w') (hs : hi ≤ w.heap.size) : Out lo hi w w' :=
  ⟨g.os, g.tape, g.output, by rw [g.size]; exact Nat.le_refl _, fun k hk ho => g.block k fun o f => by have := h.footR f; omega⟩
end Go.Proofs.YtokphdpaghkakaaGreat

/-
  What the laws' helpers markExpr and heldExpr do.
-/
namespace Go.Proofs.YtokphdpaghkakaaGreat
open Go.ChangeShapes Go.WideShapes Go.ChangeAt Go.RowKit
set_option linter.unusedVariables false

theorem Out.set {lo hi b o : Nat} {w u : World} (h : Out lo hi w u) (x : Value) (h1 : lo ≤ b) (h2 : b < hi) : Out lo hi w (u.setCell ⟨b, o, none⟩ x) :=
  ⟨by rw [show (u.setCell ⟨b, o, none⟩ x).os = u.os by simp [World.setCell]]; exact h.os, by rw [show (u.setCell ⟨b, o, none⟩ x).tape = u.tape by simp [World.setCell]]; exact h.tape, by rw [show (u.setCell ⟨b, o, none⟩ x).output = u.output by simp [World.setCell]]; exact h.output,
    by rw [World.size_setCell]; exact h.size, fun k hk ho => by rw [Below.heap_setCell _ _ _ _ (by show k ≠ b; omega)]; exact h.block k hk ho⟩

theorem Out.wide {lo hi lo' hi' : Nat} {w u : World} (h : Out lo hi w u) (h1 : lo' ≤ lo) (h2 : hi ≤ hi') : Out lo' hi' w u :=
  ⟨h.os, h.tape, h.output, h.size, fun k hk ho => h.block k hk (by omega)⟩

/-- Four cells stored one behind another. -/
theorem store4 {u : World} {B o : Nat} (hs : ∀ x, o ≤ x → x < o + 4 → (u.cell? ⟨B, x, none⟩).isSome = true) (v0 v1 v2 v3 : Value) :
    ∃ u1, (((u.setCell ⟨B, o, none⟩ v0).setCell ⟨B, o + 1, none⟩ v1).setCell ⟨B, o + 2, none⟩ v2).setCell ⟨B, o + 3, none⟩ v3 = u1 ∧
      (u1.cell? ⟨B, o, none⟩ = some v0 ∧ u1.cell? ⟨B, o + 1, none⟩ = some v1 ∧ u1.cell? ⟨B, o + 2, none⟩ = some v2 ∧ u1.cell? ⟨B, o + 3, none⟩ = some v3) ∧
      (∀ b x, b ≠ B ∨ x < o ∨ o + 4 ≤ x → u1.cell? ⟨b, x, none⟩ = u.cell? ⟨b, x, none⟩) ∧ (∀ b x, u1.frozen? ⟨b, x, none⟩ = u.frozen? ⟨b, x, none⟩) ∧ (∀ k, k ≠ B → u1.heap[k]? = u.heap[k]?) ∧ u1.heap.size = u.heap.size ∧ ∀ lo hi w, lo ≤ B → B < hi → Out lo hi w u → Out lo hi w u1 := by
  obtain ⟨x0, h0⟩ := Option.isSome_iff_exists.mp (hs o (by omega) (by omega))
  obtain ⟨x1, h1⟩ := Option.isSome_iff_exists.mp (hs (o + 1) (by omega) (by omega))
  obtain ⟨x2, h2⟩ := Option.isSome_iff_exists.mp (hs (o + 2) (by omega) (by omega))
  obtain ⟨x3, h3⟩ := Option.isSome_iff_exists.mp (hs (o + 3) (by omega) (by omega))
  refine ⟨_, rfl, ⟨?_, ?_, ?_, ?_⟩, ?_, ?_, ?_, ?_, ?_⟩
  · rw [cell_set_other _ (.inr (by omega)), cell_set_other _ (.inr (by omega)), cell_set_other _ (.inr (by omega))]
    exact World.cell?_setCell_same _ _ _ h0
  · rw [cell_set_other _ (.inr (by omega)), cell_set_other _ (.inr (by omega))]
    exact World.cell?_setCell_same _ _ _ (by rw [cell_set_other _ (.inr (by omega))]; exact h1)
  · rw [cell_set_other _ (.inr (by omega))]
    exact World.cell?_setCell_same _ _ _ (by rw [cell_set_other _ (.inr (by omega)), cell_set_other _ (.inr (by omega))]; exact h2)
  · exact World.cell?_setCell_same _ _ _ (by rw [cell_set_other _ (.inr (by omega)), cell_set_other _ (.inr (by omega)), cell_set_other _ (.inr (by omega))]; exact h3)
  · intro b x hx
    rw [cell_set_other _ (by omega), cell_set_other _ (by omega), cell_set_other _ (by omega), cell_set_other _ (by omega)]
  · intro b x
    rw [World.frozen?_setCell, World.frozen?_setCell, World.frozen?_setCell, World.frozen?_setCell]
  · intro k hk
    rw [Below.heap_setCell _ _ _ _ hk, Below.heap_setCell _ _ _ _ hk, Below.heap_setCell _ _ _ _ hk, Below.heap_setCell _ _ _ _ hk]
  · simp [World.setCell]
  · intro lo hi w h1 h2 h
    exact (((h.set _ h1 h2).set _ h1 h2).set _ h1 h2).set _ h1 h2

/-- The mark at which the i-th part begins. -/
def mAt (k : Int) (es : List ExprD) (i : Nat) : Int := k + 4 * (manyL (es.take i) : Int)

theorem mAt_succ {k : Int} {es : List ExprD} {i : Nat} {e : ExprD} (h : es[i]? = some e) : mAt k es (i + 1) = mAt k es i + 4 + 4 * (manyL e.kids : Int) := by
  unfold mAt
  rw [manyL_take_succ h, manyE_eq]
  omega

/-- What holds as j parts of an owned list have been marked. -/
structure MarkI (w : World) (lo hi b off : Nat) (es : List ExprD) (ss : Nat → Value) (l h : Nat → Nat) (k : Int) (j : Nat) (wr : World) : Prop where
  out : Out lo hi w wr
  done : ∀ i e, i < j → es[i]? = some e → Cell5 wr b (off + i * 5) (markE (mAt k es i) e) (ss i) ∧ KO wr (l i) (h i) (ss i) (markL (mAt k es i + 4) e.kids)
  todo : ∀ i e, j ≤ i → es[i]? = some e → Cell5 wr b (off + i * 5) e (ss i) ∧ KO wr (l i) (h i) (ss i) e.kids
  frozen : ∀ o, wr.frozen? ⟨b, off + o, none⟩ = false

theorem MarkI.next {w wr u u' : World} {lo hi b off : Nat} {es : List ExprD} {ss : Nat → Value} {l h : Nat → Nat} {k : Int} {j : Nat} {e : ExprD} (m : MarkI w lo hi b off es ss l h k j wr) (he : es[j]? = some e) (hlo : lo ≤ b) (hhi : b < hi) (hw : hi ≤ wr.heap.size)
    (hr : ∀ i, i < es.length → lo ≤ l i ∧ h i ≤ hi ∧ (b < l i ∨ h i ≤ b)) (hd : ∀ i j, i < j → j < es.length → h i ≤ l j ∨ h j ≤ l i)
    (hc : u.cell? ⟨b, off + j * 5, none⟩ = some (.int .i64 (mAt k es j)) ∧ u.cell? ⟨b, off + j * 5 + 1, none⟩ = some (.int .i64 (mAt k es j + 1)) ∧ u.cell? ⟨b, off + j * 5 + 2, none⟩ = some (.int .i64 (mAt k es j + 2)) ∧ u.cell? ⟨b, off + j * 5 + 3, none⟩ = some (.int .i64 (mAt k es j + 3)))
    (ho : ∀ b' x, b' ≠ b ∨ x < off + j * 5 ∨ off + j * 5 + 4 ≤ x → u.cell? ⟨b', x, none⟩ = wr.cell? ⟨b', x, none⟩) (hf : ∀ b x, u.frozen? ⟨b, x, none⟩ = wr.frozen? ⟨b, x, none⟩) (hh : ∀ k, k ≠ b → u.heap[k]? = wr.heap[k]?) (hz : u.heap.size = wr.heap.size)
    (hbl : ∀ lo hi w, lo ≤ b → b < hi → Out lo hi w wr → Out lo hi w u)
    (hk : KO u' (l j) (h j) (ss j) (markL (mAt k es j + 4) e.kids)) (hu : Out (l j) (h j) u u') : MarkI w lo hi b off es ss l h k (j + 1) u' := by
  have hjl : j < es.length := (List.getElem?_eq_some_iff.mp he).1
  have hrj := hr j hjl
  have hbu : u'.heap[b]? = u.heap[b]? := hu.block b (by omega) (by omega)
  have hcell : ∀ x, u'.cell? ⟨b, x, none⟩ = u.cell? ⟨b, x, none⟩ := fun x => World.cell?_of_block hbu
  have hkeep : ∀ i, i < es.length → i ≠ j → ∀ q, l i ≤ q → q < h i → u'.heap[q]? = wr.heap[q]? := fun i hi hne q h1 h2 => by
    have hri := hr i hi
    have hdij : h i ≤ l j ∨ h j ≤ l i := by
      rcases Nat.lt_or_gt_of_ne hne with hlt | hgt
      · exact hd i j hlt hjl
      · exact (hd j i hgt hi).symm
    rw [hu.block q (by omega) (by omega)]
    exact hh q (by omega)
  refine ⟨(hbl _ _ _ hlo hhi m.out).trans (hu.wide hrj.1 hrj.2.1), fun i e' hi hie => ?_, fun i e' hi hie => ?_, fun o => ?_⟩
  · by_cases ej : i = j
    · subst ej
      rw [he] at hie
      cases hie
      have c4 := (m.todo i e (Nat.le_refl _) he).1.c4
      refine ⟨⟨?_, ?_, ?_, ?_, ?_⟩, hk⟩
      · rw [hcell, hc.1, markE_eq]; rfl
      · rw [hcell, hc.2.1, markE_eq]; rfl
      · rw [hcell, hc.2.2.1, markE_eq]; rfl
      · rw [hcell, hc.2.2.2, markE_eq]; rfl
      · rw [hcell, ho _ _ (by omega)]; exact c4
    · have hij : i < j := by omega
      obtain ⟨d, dk⟩ := m.done i e' hij hie
      refine ⟨⟨?_, ?_, ?_, ?_, ?_⟩, dk.kept (hkeep i (by omega) ej)⟩
      · rw [hcell, ho _ _ (by omega)]; exact d.c0
      · rw [hcell, ho _ _ (by omega)]; exact d.c1
      · rw [hcell, ho _ _ (by omega)]; exact d.c2
      · rw [hcell, ho _ _ (by omega)]; exact d.c3
      · rw [hcell, ho _ _ (by omega)]; exact d.c4
  · have hil : i < es.length := (List.getElem?_eq_some_iff.mp hie).1
    obtain ⟨d, dk⟩ := m.todo i e' (by omega) hie
    refine ⟨⟨?_, ?_, ?_, ?_, ?_⟩, dk.kept (hkeep i hil (by omega))⟩
    · rw [hcell, ho _ _ (by omega)]; exact d.c0
    · rw [hcell, ho _ _ (by omega)]; exact d.c1
    · rw [hcell, ho _ _ (by omega)]; exact d.c2
    · rw [hcell, ho _ _ (by omega)]; exact d.c3
    · rw [hcell, ho _ _ (by omega)]; exact d.c4
  · rw [World.frozen?_of_block hbu, hf]; exact m.frozen o

theorem markL_back {k : Int} {es : List ExprD} {i : Nat} {e' : ExprD} (h : (markL k es)[i]? = some e') : ∃ e, es[i]? = some e ∧ e' = markE (mAt k es i) e := by
  have hl : i < es.length := by have := (List.getElem?_eq_some_iff.mp h).1; rwa [markL_length] at this
  refine ⟨es[i], List.getElem?_eq_getElem hl, ?_⟩
  rw [markL_at (List.getElem?_eq_getElem hl)] at h
  exact (Option.some.inj h).symm

theorem MarkI.ko {w wr : World} {lo hi b off cap : Nat} {es : List ExprD} {ss : Nat → Value} {l h : Nat → Nat} {k : Int} (m : MarkI w lo hi b off es ss l h k es.length wr) (h0 : es ≠ []) (h1 : es.length ≤ cap) (h2 : cap ≤ maxLen) (h3 : lo ≤ b) (h4 : b < hi)
    (hr : ∀ i, i < es.length → lo ≤ l i ∧ h i ≤ hi ∧ (b < l i ∨ h i ≤ b)) (hd : ∀ i j, i < j → j < es.length → h i ≤ l j ∨ h j ≤ l i) : KO wr lo hi (.slice (some ⟨b, off, none⟩) es.length cap) (markL k es) := by
  have hlen := markL_length k es
  have hne : markL k es ≠ [] := fun hq => h0 (List.eq_nil_of_length_eq_zero (by rw [← hlen, hq]; rfl))
  have H := KO.cons (w := wr) lo hi b off cap (markL k es) ss l h hne (by rw [hlen]; exact h1) h2 h3 h4 m.frozen (fun i e' hie => ?_) (fun i hi => hr i (by rw [hlen] at hi; exact hi)) (fun i j hij hj => hd i j hij (by rw [hlen] at hj; exact hj)) (fun i e' hie => ?_)
  · rw [hlen] at H; exact H
  · obtain ⟨e, he, rfl⟩ := markL_back hie
    exact (m.done i e (List.getElem?_eq_some_iff.mp he).1 he).1
  · obtain ⟨e, he, rfl⟩ := markL_back hie
    rw [markE_eq]
    exact (m.done i e (List.getElem?_eq_some_iff.mp he).1 he).2

/-- What markExprS does. -/
def MarkS (n : Nat) : Prop := ∀ (w : World) (lo hi : Nat) (v : Value) (es : List ExprD) (k : Int), manyL es ≤ n → 0 ≤ k → k + 4 * (manyL es : Int) ≤ 1000000000 → KO w lo hi v es → hi ≤ w.heap.size →
  Calls Tryz.prog 85 #[v, .int .i64 k] w fun en w' => en = .returned (.int .i64 (k + 4 * (manyL es : Int))) ∧ KO w' lo hi v (markL k es) ∧ Out lo hi w w'

set_option maxHeartbeats 4000000 in
theorem mark_step {n : Nat} (H : ∀ m, m < n → MarkS m) : MarkS n := by
  intro w lo hi v es k hn hk0 hkm hko hhi
  cases hko with
  | nil _ _ ad cap hc =>
    unfold maxLen at hc
    have e1 : manyL ([] : List ExprD) = 0 := by rw [manyL]
    rw [e1, markL]
    clear e1 hn hkm
    go_enter Tryz.func85, Tryz.ntmps85
    go_wp2_with fail
    go_loopw [1, 5] (fun q i wr => q = .int .i64 k ∧ i = .int .i64 0 ∧ wr = w) (fun _ _ _ => 0)
    case atStart => exact ⟨rfl, rfl, rfl⟩
    case round =>
      obtain ⟨rfl, rfl, rfl⟩ := hrel
      go_wp2
      go_ret
      exact ⟨ret_int (by omega), .nil _ _ _ _ hc, out_of_below (Below.refl _ _) _ _⟩
  | cons _ _ b off cap _ ss l h h0 h1 h2 h3 h4 hf hc hr hd hk =>
    have hmx : es.length ≤ 9223372036854775807 := by unfold maxLen at h2; omega
    have HI : Hid (MarkI w lo hi b off es ss l h k 0 w) := ⟨out_of_below (Below.refl _ _) _ _, fun i e hi => by omega, fun i e _ hie => ⟨hc i e hie, hk i e hie⟩, hf⟩
    have HRR : Hid ((∀ i, i < es.length → lo ≤ l i ∧ h i ≤ hi ∧ (b < l i ∨ h i ≤ b)) ∧ (∀ i j, i < j → j < es.length → h i ≤ l j ∨ h j ≤ l i)) := ⟨hr, hd⟩
    have HM : Hid (manyL es ≤ n ∧ k + 4 * (manyL es : Int) ≤ 1000000000) := ⟨hn, hkm⟩
    clear hf hc hr hd hk hn hkm
    go_enter Tryz.func85, Tryz.ntmps85
    go_wp2_with fail
    go_loopw [1, 5] (fun q i wr => ∃ j : Nat, j ≤ es.length ∧ q = .int .i64 (mAt k es j) ∧ i = .int .i64 j ∧ MarkI w lo hi b off es ss l h k j wr) (fun _ i _ => es.length - (intOf i).toNat)
    case atStart => exact ⟨0, Nat.zero_le _, by simp [mAt, manyL], rfl, HI.out⟩
    case round =>
      clear HI
      obtain ⟨j, hj, rfl, rfl, hI⟩ := hrel
      have hle : 0 ≤ mAt k es j ∧ mAt k es j ≤ 1000000000 := by
        have h5 := manyL_take_le es j
        have h6 := HM.out.2
        unfold mAt
        omega
      by_cases hlt : j < es.length
      · obtain ⟨e, he⟩ : ∃ e, es[j]? = some e := ⟨es[j], List.getElem?_eq_getElem hlt⟩
        have hlt' : (j : Int) < (es.length : Int) := by omega
        have hws := hI.out.size
        obtain ⟨hc5, hkk⟩ := hI.todo j e (Nat.le_refl _) he
        have hsm : ∀ x, off + j * 5 ≤ x → x < off + j * 5 + 4 → (wr.cell? ⟨b, x, none⟩).isSome = true := fun x h5 h6 => by
          obtain rfl | rfl | rfl | rfl : x = off + j * 5 ∨ x = off + j * 5 + 1 ∨ x = off + j * 5 + 2 ∨ x = off + j * 5 + 3 := by omega
          · rw [hc5.c0]; rfl
          · rw [hc5.c1]; rfl
          · rw [hc5.c2]; rfl
          · rw [hc5.c3]; rfl
        obtain ⟨u, hu, hc, ho, hff, hh, hz, hbl⟩ := store4 hsm (.int .i64 (mAt k es j)) (.int .i64 (mAt k es j + 1)) (.int .i64 (mAt k es j + 2)) (.int .i64 (mAt k es j + 3))
        have hkl := kid_lt he
        have hms := mAt_succ (k := k) he
        have hmle : mAt k es (j + 1) ≤ 1000000000 := by
          have h5 := manyL_take_le es (j + 1)
          have h6 := HM.out.2
          unfold mAt
          omega
        have hrj := HRR.out.1 j hlt
        have hC := H (manyL e.kids) (by have := HM.out.1; omega) u (l j) (h j) (ss j) e.kids (mAt k es j + 4) (Nat.le_refl _) (by omega) (by omega) (hkk.kept fun q q1 q2 => hh q (by omega)) (by omega)
        have HN : ∀ u', KO u' (l j) (h j) (ss j) (markL (mAt k es j + 4) e.kids) → Out (l j) (h j) u u' → MarkI w lo hi b off es ss l h k (j + 1) u' := fun u' a1 a2 =>
          hI.next he h3 h4 (by omega) HRR.out.1 HRR.out.2 hc ho hff hh hz hbl a1 a2
        have HNN : Hid (∀ u', KO u' (l j) (h j) (ss j) (markL (mAt k es j + 4) e.kids) → Out (l j) (h j) u u' → MarkI w lo hi b off es ss l h k (j + 1) u') := HN
        have HU : Hid (_ = u) := hu
        have HMS : Hid (mAt k es (j + 1) = mAt k es j + 4 + 4 * (manyL e.kids : Int)) := hms
        obtain ⟨c0, c1, c2, c3, c4⟩ := hc5
        have f0 := hI.frozen (j * 5)
        have f1 := hI.frozen (j * 5 + 1)
        have f2 := hI.frozen (j * 5 + 2)
        have f3 := hI.frozen (j * 5 + 3)
        rw [← Nat.add_assoc] at f1 f2 f3
        obtain ⟨ads, cps, hss, _, _⟩ := hkk.kr.shape
        rw [hss] at c4
        rw [hss] at hC HNN
        have c4u : u.cell? ⟨b, off + j * 5 + 4, none⟩ = some (.slice ads e.kids.length cps) := by rw [ho _ _ (by omega)]; exact c4
        have HC4 : Hid (u.cell? ⟨b, off + j * 5 + 4, none⟩ = some (.slice ads e.kids.length cps)) := c4u
        clear hu hc ho hff hh hz hbl hI HN hms hkk hsm hss hkl c4u
        generalize mAt k es j = M at *
        go_wp2_with fail
        rw [show M + 1 + 1 = M + 2 by omega, show M + 2 + 1 = M + 3 by omega, show M + 3 + 1 = M + 4 by omega, show off + j * 5 + 2 + 1 = off + j * 5 + 3 from rfl, HU.out]
        refine hC.mono ?_
        rintro e1 u' ⟨rfl, a1, a2⟩
        have HI' : Hid (MarkI w lo hi b off es ss l h k (j + 1) u') := HNN.out u' a1 a2
        clear a1 a2 hC HNN c0 c1 c2 c3 c4
        go_wp2
        go_roundw
        case rel => exact ⟨j + 1, by omega, by rw [HMS.out], by go_num, HI'.out⟩
        case measure => simp [intOf]; omega
      · obtain rfl : j = es.length := by omega
        have HKO : Hid (KO wr lo hi (.slice (some ⟨b, off, none⟩) es.length cap) (markL k es) ∧ Out lo hi w wr) := ⟨hI.ko h0 h1 h2 h3 h4 HRR.out.1 HRR.out.2, hI.out⟩
        have hR : mAt k es es.length = k + 4 * (manyL es : Int) := by unfold mAt; rw [List.take_length]
        have HR : Hid (mAt k es es.length = k + 4 * (manyL es : Int)) := hR
        clear hI hR
        generalize mAt k es es.length = M at *
        go_wp2
        go_ret
        exact ⟨ret_int HR.out, HKO.out.1, HKO.out.2⟩

theorem markS (n : Nat) : MarkS n := by
  induction n using Nat.strongRecOn with
  | ind n ih => exact mark_step ih


end Go.Proofs.YtokphdpaghkakaaGreat
