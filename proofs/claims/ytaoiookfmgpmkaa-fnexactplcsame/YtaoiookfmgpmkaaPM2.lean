import Derived.Test.YtaoiookfmgpmkaaPM1
import Derived.RegionTactic
import Derived.Deep.RegionLawGrows
import Derived.Deep.Upon
import Derived.Maps.AppendAt
import Derived.Deep.AppendLies
import Derived.Lib.SmallJoins

/-
  A region that draws its order, walked once for each operation and not once for each order: what each operation leaves in its slot is said by a predicate that later steps do not spoil.
-/
namespace Go.Proofs.Ytaoiookfmgpmkaa
open Go.RowKit

/-- What an operation's slot holds. -/
def slotOf (o : Oper) (a : Act) : Value := match o.dst with | some d => a.tmps.getD d undef | none => undef

/-- Every edge leads back to an operation that stands ahead in the text. -/
def backB (ops : Array Oper) : Bool := (List.range ops.size).all fun i => ((ops[i]?).map fun o => o.after.all fun e => decide (e.on < i)).getD true

/-- No two operations write one slot. -/
def ownSlotsB (ops : Array Oper) : Bool :=
  (List.range ops.size).all fun i => (List.range ops.size).all fun j => i == j || (match (ops[i]?).bind (·.dst), (ops[j]?).bind (·.dst) with | some x, some y => x != y | _, _ => true)

theorem ownSlots {ops : Array Oper} (h : ownSlotsB ops = true) {i j : Nat} {oi oj : Oper} (hi : ops[i]? = some oi) (hj : ops[j]? = some oj) (hne : i ≠ j) {d : Tmp} (hd : oi.dst = some d) : oj.dst ≠ some d := by
  intro hd'
  have li : i < ops.size := (Array.getElem?_eq_some_iff.mp hi).1
  have lj : j < ops.size := (Array.getElem?_eq_some_iff.mp hj).1
  have h1 := List.all_eq_true.mp (List.all_eq_true.mp h i (List.mem_range.mpr li)) j (List.mem_range.mpr lj)
  simp [hi, hj, hd, hd', hne] at h1

theorem back_of {ops : Array Oper} (h : backB ops = true) {i : Nat} {o : Oper} (hi : ops[i]? = some o) {e : Edge} (he : e ∈ o.after) : e.on < i := by
  have li : i < ops.size := (Array.getElem?_eq_some_iff.mp hi).1
  have h1 := List.all_eq_true.mp h i (List.mem_range.mpr li)
  simp only [hi, Option.map_some, Option.getD_some] at h1
  have := Array.all_eq_true'.mp h1 e he
  simpa using this

/-- Slots that the region does not write are as they were. -/
structure Frames (ops : Array Oper) (a0 a : Act) : Prop where
  size : a.tmps.size = a0.tmps.size
  defers : a.defers = a0.defers
  other : ∀ t, (∀ (j : Nat) (o : Oper), ops[j]? = some o → o.dst ≠ some t) → a.tmps.getD t undef = a0.tmps.getD t undef

/-- The region does not write this slot. -/
def noSlotB (ops : Array Oper) (t : Tmp) : Bool := ops.toList.all fun o => match o.dst with | some d => d != t | none => true

theorem Frames.at_ {ops : Array Oper} {a0 a : Act} (h : Frames ops a0 a) (t : Tmp) (hn : noSlotB ops t = true) : a.tmps.getD t undef = a0.tmps.getD t undef :=
  h.other t fun j o hj hd => by
    have hm : o ∈ ops.toList := by rw [Array.mem_toList_iff]; exact Array.mem_of_getElem? hj
    have := List.all_eq_true.mp hn o hm
    simp [hd] at this

theorem getD_put_ne (a : Act) (d t : Tmp) (v : Value) (h : d ≠ t) : (a.put (some d) v).tmps.getD t undef = a.tmps.getD t undef := by
  show (a.tmps.setIfInBounds d v).getD t undef = _
  simp [h]

theorem Frames.put {ops : Array Oper} {a0 a : Act} (h : Frames ops a0 a) {i : Nat} {o : Oper} (hi : ops[i]? = some o) (v : Value) : Frames ops a0 (a.put o.dst v) := by
  cases hd : o.dst with
  | none => exact h
  | some d =>
    refine ⟨?_, h.defers, fun t ht => ?_⟩
    · show (a.tmps.setIfInBounds d v).size = _; simp [h.size]
    · rw [getD_put_ne _ _ _ _ (fun e => ht i o hi (by rw [hd, e]))]; exact h.other t ht

theorem slotOf_put {ops : Array Oper} (hown : ownSlotsB ops = true) {a : Act} {i j : Nat} {oi oj : Oper} (hi : ops[i]? = some oi) (hj : ops[j]? = some oj) (hne : i ≠ j) (v : Value) : slotOf oj (a.put oi.dst v) = slotOf oj a := by
  cases hd : oi.dst with
  | none => rfl
  | some d =>
    have h1 := ownSlots hown hi hj hne hd
    unfold slotOf
    cases hd' : oj.dst with
    | none => rfl
    | some d' => exact getD_put_ne _ _ _ _ (fun e => h1 (by rw [hd', e]))

theorem count_set : ∀ (l : List Bool) (i : Nat), l[i]? = some false → (l.set i true).countP (fun b => !b) + 1 = l.countP (fun b => !b)
  | [], i, h => by simp at h
  | b :: l, 0, h => by simp at h; subst h; simp
  | b :: l, i + 1, h => by
    have := count_set l i (by simpa using h)
    simp only [List.set_cons_succ, List.countP_cons]
    omega

/-- How many are not listed yet. -/
def unlisted (L : Array Bool) : Nat := L.toList.countP fun b => !b

theorem unlisted_set {L : Array Bool} {i : Nat} (h : L.getD i true = false) : unlisted (L.setIfInBounds i true) + 1 = unlisted L := by
  have hi : i < L.size := by
    rcases Nat.lt_or_ge i L.size with h' | h'
    · exact h'
    · simp [Array.getElem?_eq_none h'] at h
  unfold unlisted
  rw [Array.toList_setIfInBounds]
  exact count_set _ _ (by simp [hi] at h ⊢; exact h)

theorem unlisted_zero {L : Array Bool} (h : unlisted L = 0) (i : Nat) : L.getD i true = true := by
  unfold unlisted at h
  rw [List.countP_eq_zero] at h
  rcases Nat.lt_or_ge i L.size with h' | h'
  · have := h L[i] (by simp)
    simp [h'] at this ⊢
    exact this
  · simp [Array.getElem?_eq_none h']

section
variable {P : Program} {ops : Array Oper} {Q : Exit → Act → World → Prop}

/-- Where nothing is ready, all are listed: edges lead back. -/
theorem all_listed (hback : backB ops = true) {L : Array Bool} (hsz : L.size = ops.size) (h : Region.ready .any ops L = []) : ∀ n i, i < n → L.getD i true = true := by
  intro n
  induction n with
  | zero => intro i hi; omega
  | succ n ih =>
    intro i hi
    by_cases hlt : i < n
    · exact ih i hlt
    obtain rfl : i = n := by omega
    rcases Nat.lt_or_ge i ops.size with h' | h'
    · cases hL : L.getD i true with
      | true => rfl
      | false =>
        have hmem : i ∈ Region.ready .any ops L := by
          unfold Region.ready
          rw [List.mem_filter]
          refine ⟨List.mem_range.mpr h', ?_⟩
          obtain ⟨o, ho⟩ : ∃ o, ops[i]? = some o := ⟨ops[i], Array.getElem?_eq_getElem h'⟩
          simp only [hL, ho, Option.map_some, Option.getD_some, Bool.not_false, Bool.true_and]
          rw [Array.all_eq_true']
          intro e he
          have hlt' := back_of hback ho he
          have := ih e.on hlt'
          have hsz' : e.on < L.size := by omega
          simp [hsz'] at this ⊢
          exact .inr this
        rw [h] at hmem
        cases hmem
    · simp [Array.getElem?_eq_none (show L.size ≤ i by omega)]

variable {a0 : Act} {w0 : World} {R : World → World → Prop} {Φ : Nat → Value → World → Prop} {J : Array Bool → Act → World → Prop}

/-- A region that draws its order: each operation is walked once. R: how the world may go on; Φ: what each slot holds, which R does not spoil; J: what holds of several slots together. -/
theorem wp_region_dagJ {id : Nat} (hm : P.follows .mixedOrders = true) (hback : backB ops = true) (hown : ownSlotsB ops = true)
    (hR0 : R w0.drew w0.drew) (hRt : ∀ a b c, R a b → R b c → R a c)
    (stab : ∀ j v w w', R w w' → Φ j v w → Φ j v w')
    (hJ0 : J (Array.replicate ops.size false) a0 w0.drew)
    (step : ∀ (i : Nat) (o : Oper), ops[i]? = some o → ∀ (L : Array Bool) (a : Act) (w : World), Frames ops a0 a → R w0.drew w → L.size = ops.size → L.getD i true = false →
      (∀ (j : Nat) (oj : Oper), ops[j]? = some oj → L.getD j true = true → Φ j (slotOf oj a) w) →
      (∀ e ∈ o.after, Region.binds .any e = true → L.getD e.on true = true) → J L a w →
      ∀ K' : Act → World → Prop, (∀ v w', R w w' → Φ i (slotOf o (a.put o.dst v)) w' → J (L.setIfInBounds i true) (a.put o.dst v) w' → K' (a.put o.dst v) w') →
        if Region.wanted o (yielded ops a.tmps) = true then Oper.wp P o a w K' Q else K' (a.put o.dst undef) w)
    (fin : ∀ (L : Array Bool) (a : Act) (w : World), Frames ops a0 a → R w0.drew w → (∀ (j : Nat) (oj : Oper), ops[j]? = some oj → L.getD j true = true ∧ Φ j (slotOf oj a) w) → J L a w → Q .normal a w) :
    (Code.region id ops true).wp P Q a0 w0 := by
  refine wp_region_any hm ?_
  have main : ∀ (fuel : Nat) (L : Array Bool) (a : Act) (w : World), L.size = ops.size → unlisted L ≤ fuel → Frames ops a0 a → R w0.drew w →
      (∀ (j : Nat) (oj : Oper), ops[j]? = some oj → L.getD j true = true → Φ j (slotOf oj a) w) → J L a w → wpAny P .any ops Q fuel L a w := by
    intro fuel
    induction fuel with
    | zero =>
      intro L a w hsz hu hf hr hp hj
      have hz := unlisted_zero (L := L) (by omega)
      refine ⟨?_, fin L a w hf hr (fun j oj hj => ⟨hz j, hp j oj hj (hz j)⟩) hj⟩
      rw [List.eq_nil_iff_forall_not_mem]
      intro i hi
      have := (mem_ready.1 hi).1
      rw [hz i] at this; cases this
    | succ fuel ih =>
      intro L a w hsz hu hf hr hp hj
      refine ⟨fun hn => fin L a w hf hr (fun j oj hj => ⟨all_listed hback hsz hn (j + 1) j (by omega), hp j oj hj (all_listed hback hsz hn (j + 1) j (by omega))⟩) hj, fun i hi => ?_⟩
      obtain ⟨hL, o, ho, hall⟩ := mem_ready.1 hi
      refine wpOp_step ho fun K' hK' => step i o ho L a w hf hr hsz hL hp (fun e he hb => ?_) hj K' fun v w' hr' hphi hj' => hK' _ _ (ih _ _ _ (by simp [hsz]) (by have := unlisted_set hL; omega) (hf.put ho v) (hRt _ _ _ hr hr') ?_ hj')
      · have := hall e he hb
        rcases Nat.lt_or_ge e.on L.size with h' | h'
        · simp [h'] at this ⊢; exact this
        · simp [Array.getElem?_eq_none h']
      · intro j oj hj hl
        by_cases e : i = j
        · subst e
          rw [ho] at hj; cases hj
          exact hphi
        · rw [slotOf_put hown ho hj e]
          rw [getD_set_ne true e] at hl
          exact stab j _ w w' hr' (hp j oj hj hl)
  exact main ops.size _ a0 _ (by simp) (by simp [unlisted, List.countP_replicate]) ⟨rfl, rfl, fun _ _ => rfl⟩ hR0 (by
    intro j oj hj hl
    have hjl : j < ops.size := (Array.getElem?_eq_some_iff.mp hj).1
    simp [hjl] at hl) hJ0

/-- .. where nothing is to be said of several slots together. -/
theorem wp_region_dag {id : Nat} (hm : P.follows .mixedOrders = true) (hback : backB ops = true) (hown : ownSlotsB ops = true)
    (hR0 : R w0.drew w0.drew) (hRt : ∀ a b c, R a b → R b c → R a c)
    (stab : ∀ j v w w', R w w' → Φ j v w → Φ j v w')
    (step : ∀ (i : Nat) (o : Oper), ops[i]? = some o → ∀ (a : Act) (w : World), Frames ops a0 a → R w0.drew w →
      (∀ e ∈ o.after, Region.binds .any e = true → ∀ oj, ops[e.on]? = some oj → Φ e.on (slotOf oj a) w) →
      ∀ K' : Act → World → Prop, (∀ v w', R w w' → Φ i (slotOf o (a.put o.dst v)) w' → K' (a.put o.dst v) w') →
        if Region.wanted o (yielded ops a.tmps) = true then Oper.wp P o a w K' Q else K' (a.put o.dst undef) w)
    (fin : ∀ (a : Act) (w : World), Frames ops a0 a → R w0.drew w → (∀ (j : Nat) (oj : Oper), ops[j]? = some oj → Φ j (slotOf oj a) w) → Q .normal a w) :
    (Code.region id ops true).wp P Q a0 w0 :=
  wp_region_dagJ (J := fun _ _ _ => True) hm hback hown hR0 hRt stab trivial
    (fun i o ho _ a w hf hr _ _ hp he _ K' hK' => step i o ho a w hf hr (fun e h1 h2 oj hoj => hp _ oj hoj (he e h1 h2)) K' fun v w' h1 h2 => hK' v w' h1 h2 trivial)
    (fun _ a w hf hr hp _ => fin a w hf hr fun j oj hj => (hp j oj hj).2)
end

/-- A frame, slot by slot. -/
theorem act_lit (a : Act) (n : Nat) (h : a.tmps.size = n) : ∃ f : Nat → Value, a = ⟨((List.range n).map f).toArray, a.defers⟩ ∧ ∀ i, f i = a.tmps.getD i undef := by
  refine ⟨fun i => a.tmps.getD i undef, ?_, fun _ => rfl⟩
  obtain ⟨tm, df⟩ := a
  simp only at h ⊢
  congr 1
  apply Array.ext
  · simp [h]
  · intro i h1 h2
    simp [h1]

section
variable {P : Program} {ops : Array Oper} {Q : Exit → Act → World → Prop} {a0 : Act} {w0 : World} {R : World → World → Prop} {Φ : Nat → Value → World → Prop} {J : Array Bool → Act → World → Prop}

/-- The last operation waits for all others. -/
def lastB (ops : Array Oper) (n : Nat) : Bool := (List.range n).all fun j => ((ops[n]?).map fun o => o.after.any fun e => Region.binds .any e && e.on == j).getD false

theorem last_of {n : Nat} (h : lastB ops n = true) {o : Oper} (ho : ops[n]? = some o) {j : Nat} (hj : j < n) : ∃ e ∈ o.after, Region.binds .any e = true ∧ e.on = j := by
  have h1 := List.all_eq_true.mp h j (List.mem_range.mpr hj)
  simp only [ho, Option.map_some, Option.getD_some] at h1
  obtain ⟨e, he, h2⟩ := Array.any_eq_true'.mp h1
  simp at h2
  exact ⟨e, he, h2.1, h2.2⟩

/-- A region whose last operation waits for all others: the others are walked once each, in whatever order; then the last. -/
theorem wp_region_last {id : Nat} (n : Nat) (on : Oper) (hn : ops.size = n + 1) (hon : ops[n]? = some on) (hlast : lastB ops n = true)
    (hm : P.follows .mixedOrders = true) (hback : backB ops = true) (hown : ownSlotsB ops = true)
    (hR0 : R w0.drew w0.drew) (hRt : ∀ a b c, R a b → R b c → R a c)
    (stab : ∀ j v w w', R w w' → Φ j v w → Φ j v w')
    (hJ0 : J (Array.replicate ops.size false) a0 w0.drew)
    (step : ∀ (i : Nat) (o : Oper), ops[i]? = some o → i < n → ∀ (L : Array Bool) (a : Act) (w : World), Frames ops a0 a → R w0.drew w → L.size = ops.size → L.getD i true = false →
      (∀ (j : Nat) (oj : Oper), ops[j]? = some oj → L.getD j true = true → Φ j (slotOf oj a) w) →
      (∀ e ∈ o.after, Region.binds .any e = true → L.getD e.on true = true) → J L a w →
      ∀ K' : Act → World → Prop, (∀ v w', R w w' → Φ i (slotOf o (a.put o.dst v)) w' → J (L.setIfInBounds i true) (a.put o.dst v) w' → K' (a.put o.dst v) w') →
        if Region.wanted o (yielded ops a.tmps) = true then Oper.wp P o a w K' Q else K' (a.put o.dst undef) w)
    (fin : ∀ (L : Array Bool) (a : Act) (w : World), Frames ops a0 a → R w0.drew w → (∀ (j : Nat) (oj : Oper), j < n → ops[j]? = some oj → L.getD j true = true ∧ Φ j (slotOf oj a) w) → J L a w →
      ∀ K' : Act → World → Prop, (∀ a' w', Q .normal a' w' → K' a' w') → if Region.wanted on (yielded ops a.tmps) = true then Oper.wp P on a w K' Q else K' (a.put on.dst undef) w) :
    (Code.region id ops true).wp P Q a0 w0 := by
  refine wp_region_any hm ?_
  have main : ∀ (fuel : Nat) (L : Array Bool) (a : Act) (w : World), L.size = ops.size → unlisted L ≤ fuel → L.getD n true = false → Frames ops a0 a → R w0.drew w →
      (∀ (j : Nat) (oj : Oper), ops[j]? = some oj → L.getD j true = true → Φ j (slotOf oj a) w) → J L a w → wpAny P .any ops Q fuel L a w := by
    intro fuel
    induction fuel with
    | zero =>
      intro L a w hsz hu hnl hf hr hp hj
      have hz := unlisted_zero (L := L) (by omega) n
      rw [hnl] at hz; cases hz
    | succ fuel ih =>
      intro L a w hsz hu hnl hf hr hp hj
      refine ⟨fun hne => ?_, fun i hi => ?_⟩
      · have := all_listed hback hsz hne (n + 1) n (by omega)
        rw [hnl] at this; cases this
      obtain ⟨hL, o, ho, hall⟩ := mem_ready.1 hi
      have hafter : ∀ e ∈ o.after, Region.binds .any e = true → L.getD e.on true = true := fun e he hb => by
        have := hall e he hb
        rcases Nat.lt_or_ge e.on L.size with h' | h'
        · simp [h'] at this ⊢; exact this
        · simp [Array.getElem?_eq_none h']
      have hilt : i < n + 1 := by rw [← hn]; exact (Array.getElem?_eq_some_iff.mp ho).1
      by_cases hin : i = n
      · subst hin
        rw [hon] at ho; cases ho
        refine wpOp_step hon fun K' hK' => fin L a w hf hr (fun j oj hjn hj => ?_) hj K' fun a' w' hq => hK' _ _ ?_
        · obtain ⟨e, he, hb, rfl⟩ := last_of hlast hon hjn
          exact ⟨hafter e he hb, hp _ oj hj (hafter e he hb)⟩
        · have hall' : Region.ready .any ops (L.setIfInBounds i true) = [] := by
            rw [List.eq_nil_iff_forall_not_mem]
            intro k hk
            obtain ⟨hk1, ok, hok, _⟩ := mem_ready.1 hk
            have hkl : k < i + 1 := by rw [← hn]; exact (Array.getElem?_eq_some_iff.mp hok).1
            by_cases e : i = k
            · subst e
              have hil : i < L.size := by omega
              simp [hil] at hk1
            · rw [getD_set_ne true e] at hk1
              obtain ⟨e', he, hb, rfl⟩ := last_of hlast hon (show k < i by omega)
              rw [hafter e' he hb] at hk1; cases hk1
          cases fuel with
          | zero => exact ⟨hall', hq⟩
          | succ fuel => exact ⟨fun _ => hq, fun k hk => by rw [hall'] at hk; cases hk⟩
      · refine wpOp_step ho fun K' hK' => step i o ho (by omega) L a w hf hr hsz hL hp hafter hj K' fun v w' hr' hphi hj' => hK' _ _ (ih _ _ _ (by simp [hsz]) (by have := unlisted_set hL; omega) (by rw [getD_set_ne true hin]; exact hnl) (hf.put ho v) (hRt _ _ _ hr hr') ?_ hj')
        intro j oj hj hl
        by_cases e : i = j
        · subst e
          rw [ho] at hj; cases hj
          exact hphi
        · rw [slotOf_put hown ho hj e]
          rw [getD_set_ne true e] at hl
          exact stab j _ w w' hr' (hp j oj hj hl)
  exact main ops.size _ a0 _ (by simp) (by simp [unlisted, List.countP_replicate]) (by simp [hn]) ⟨rfl, rfl, fun _ _ => rfl⟩ hR0 (by
    intro j oj hj hl
    have hjl : j < ops.size := (Array.getElem?_eq_some_iff.mp hj).1
    simp [hjl] at hl) hJ0
end

/-- The world goes on: new blocks alone. -/
abbrev Grow (u u' : World) : Prop := Below u.heap.size u u'

theorem grow_trans (a b c : World) (h : Grow a b) (k : Grow b c) : Grow a c := below_two h k

/-- A variable's cells are there, and may be written. -/
def Zero (n : Nat) (u : World) (B : Nat) : Prop := ∀ k, k < n → (u.cell? ⟨B, k, none⟩).isSome = true ∧ u.frozen? ⟨B, k, none⟩ = false

theorem Zero.grow {n : Nat} {u u' : World} {B : Nat} (h : Zero n u B) (hg : Grow u u') (hB : B < u.heap.size) : Zero n u' B := fun k hk => by
  rw [hg.cell (p := ⟨B, k, none⟩) hB, hg.frozen (p := ⟨B, k, none⟩) hB]; exact h k hk

/-- What holds of a new variable and of what will be stored there. -/
structure VarJ (Own : World → Nat → Nat → Value → Prop) (n0 nc iA iC : Nat) (p r : Tmp) (L : Array Bool) (a : Act) (u : World) : Prop where
  al : L.getD iA true = true → ∃ B, a.tmps.getD p undef = .pointer (some ⟨B, 0, none⟩) ∧ n0 ≤ B ∧ B < u.heap.size ∧ Zero nc u B
  cl : L.getD iC true = true → ∃ lo hi, Own u lo hi (a.tmps.getD r undef) ∧ n0 ≤ lo ∧ hi ≤ u.heap.size ∧
    (L.getD iA true = true → ∀ B, a.tmps.getD p undef = .pointer (some ⟨B, 0, none⟩) → B < lo ∨ hi ≤ B)

section
variable {P : Program} {ops : Array Oper} {Q : Exit → Act → World → Prop} {a0 : Act} {w0 : World} {Φ : Nat → Value → World → Prop} {Own : World → Nat → Nat → Value → Prop}

theorem getD_set_self' {L : Array Bool} {i : Nat} (h : i < L.size) : (L.setIfInBounds i true).getD i true = true := by simp [h]

theorem getD_put_self (a : Act) (d : Tmp) (v : Value) (h : d < a.tmps.size) : (a.put (some d) v).tmps.getD d undef = v := by
  show (a.tmps.setIfInBounds d v).getD d undef = v
  simp [h]

/-- 'x := f(..)' where x is a variable in memory: a region that draws its order, its last operation the store. iA: the variable is made; iC: the call whose answer is stored. -/
theorem wp_region_var {id : Nat} (n iA iC : Nat) (on oA oC : Oper) (p r : Tmp) (nc : Nat) (hn : ops.size = n + 1) (hon : ops[n]? = some on) (hlast : lastB ops n = true)
    (hA : ops[iA]? = some oA) (hC : ops[iC]? = some oC) (hAp : oA.dst = some p) (hCr : oC.dst = some r) (hAC : iA ≠ iC) (hpr : p ≠ r) (hAn : iA < n) (hCn : iC < n) (hps : p < a0.tmps.size) (hrs : r < a0.tmps.size)
    (hm : P.follows .mixedOrders = true) (hback : backB ops = true) (hown : ownSlotsB ops = true)
    (ownKept : ∀ u u' lo hi v, (∀ k, lo ≤ k → k < hi → u'.heap[k]? = u.heap[k]?) → Own u lo hi v → Own u' lo hi v)
    (stab : ∀ j v w w', Grow w w' → Φ j v w → Φ j v w')
    (step : ∀ (i : Nat) (o : Oper), ops[i]? = some o → i < n → i ≠ iA → i ≠ iC → ∀ (a : Act) (u : World), Frames ops a0 a → Grow w0 u →
      (∀ e ∈ o.after, Region.binds .any e = true → ∀ oj, ops[e.on]? = some oj → Φ e.on (slotOf oj a) u) →
      ∀ K' : Act → World → Prop, (∀ v u', Grow u u' → Φ i (slotOf o (a.put o.dst v)) u' → K' (a.put o.dst v) u') →
        if Region.wanted o (yielded ops a.tmps) = true then Oper.wp P o a u K' Q else K' (a.put o.dst undef) u)
    (stepA : ∀ (a : Act) (u : World), Frames ops a0 a → ∀ K' : Act → World → Prop, (∀ u', Grow u u' → u.heap.size < u'.heap.size → Zero nc u' u.heap.size → K' (a.put oA.dst (.pointer (some ⟨u.heap.size, 0, none⟩))) u') →
        if Region.wanted oA (yielded ops a.tmps) = true then Oper.wp P oA a u K' Q else K' (a.put oA.dst undef) u)
    (stepC : ∀ (a : Act) (u : World), Frames ops a0 a → Grow w0 u →
      (∀ e ∈ oC.after, Region.binds .any e = true → ∀ oj, ops[e.on]? = some oj → Φ e.on (slotOf oj a) u) →
      ∀ K' : Act → World → Prop, (∀ v u', Grow u u' → Own u' u.heap.size u'.heap.size v → K' (a.put oC.dst v) u') →
        if Region.wanted oC (yielded ops a.tmps) = true then Oper.wp P oC a u K' Q else K' (a.put oC.dst undef) u)
    (hΦA : ∀ v u, Φ iA v u) (hΦC : ∀ v u, Φ iC v u)
    (fin : ∀ (a : Act) (u : World) (B lo hi : Nat), Frames ops a0 a → Grow w0 u → a.tmps.getD p undef = .pointer (some ⟨B, 0, none⟩) → w0.heap.size ≤ B → B < u.heap.size → Zero nc u B →
      Own u lo hi (a.tmps.getD r undef) → w0.heap.size ≤ lo → hi ≤ u.heap.size → (B < lo ∨ hi ≤ B) → (∀ (j : Nat) (oj : Oper), j < n → ops[j]? = some oj → Φ j (slotOf oj a) u) →
      ∀ K' : Act → World → Prop, (∀ a' w', Q .normal a' w' → K' a' w') → if Region.wanted on (yielded ops a.tmps) = true then Oper.wp P on a u K' Q else K' (a.put on.dst undef) u) :
    (Code.region id ops true).wp P Q a0 w0 := by
  have hg0 : ∀ u, Grow w0.drew u → Grow w0 u := fun u h => (Below.drew (Below.refl _ _)).trans h
  refine wp_region_last (R := Grow) (Φ := Φ) (J := VarJ Own w0.heap.size nc iA iC p r) n on hn hon hlast hm hback hown (Below.refl _ _) grow_trans stab ?_ ?_ ?_
  · have h1 : (Array.replicate ops.size false).getD iA true = false := by simp [hn, show iA < n + 1 by omega]
    have h2 : (Array.replicate ops.size false).getD iC true = false := by simp [hn, show iC < n + 1 by omega]
    refine ⟨fun h => ?_, fun h => ?_⟩
    · rw [h1] at h; cases h
    · rw [h2] at h; cases h
  · intro i o ho hin L a u hf hr hsz hL hp he hj K' hK
    have hus : w0.heap.size ≤ u.heap.size := hr.size
    by_cases eA : i = iA
    · subst eA
      rw [hA] at ho; cases ho
      refine stepA a u hf K' fun u' hg hlt hz => hK _ _ hg (hΦA _ _) ⟨fun _ => ⟨u.heap.size, ?_, hus, hlt, hz⟩, fun hc => ?_⟩
      · rw [hAp]; exact getD_put_self _ _ _ (by rw [hf.size]; exact hps)
      · rw [getD_set_ne true hAC] at hc
        obtain ⟨lo, hi, ho, h1, h2, _⟩ := hj.cl hc
        rw [hAp, getD_put_ne _ _ _ _ hpr]
        refine ⟨lo, hi, ownKept _ _ _ _ _ (fun k _ h4 => hg.block k (by omega)) ho, h1, Nat.le_trans h2 hg.size, fun _ B hB => ?_⟩
        rw [getD_put_self _ _ _ (by rw [hf.size]; exact hps)] at hB
        have : u.heap.size = B := by simpa using hB
        omega
    · by_cases eC : i = iC
      · subst eC
        rw [hC] at ho; cases ho
        refine stepC a u hf (hg0 u hr) (fun e h1 h2 oj hoj => hp _ oj hoj (he e h1 h2)) K' fun v u' hg hown' => hK _ _ hg (hΦC _ _) ⟨fun ha => ?_, fun _ => ⟨u.heap.size, u'.heap.size, ?_, hus, Nat.le_refl _, fun ha B hB => ?_⟩⟩
        · rw [getD_set_ne true (Ne.symm hAC)] at ha
          obtain ⟨B, h1, h2, h3, h4⟩ := hj.al ha
          refine ⟨B, ?_, h2, Nat.lt_of_lt_of_le h3 hg.size, h4.grow hg h3⟩
          rw [hCr, getD_put_ne _ _ _ _ (Ne.symm hpr)]; exact h1
        · rw [hCr, getD_put_self _ _ _ (by rw [hf.size]; exact hrs)]; exact hown'
        · rw [getD_set_ne true (Ne.symm hAC)] at ha
          obtain ⟨B', h1, h2, h3, h4⟩ := hj.al ha
          rw [hCr, getD_put_ne _ _ _ _ (Ne.symm hpr), h1] at hB
          have : B' = B := by simpa using hB
          omega
      · refine step i o ho hin eA eC a u hf (hg0 u hr) (fun e h1 h2 oj hoj => hp _ oj hoj (he e h1 h2)) K' fun v u' hg hphi => hK v u' hg hphi ?_
        have hsp : ∀ t, (∃ j oj, ops[j]? = some oj ∧ oj.dst = some t ∧ i ≠ j) → (a.put o.dst v).tmps.getD t undef = a.tmps.getD t undef := by
          rintro t ⟨j, oj, hj, hd, hne⟩
          cases hdo : o.dst with
          | none => rfl
          | some d => exact getD_put_ne _ _ _ _ (fun e => ownSlots hown ho hj hne hdo (by rw [hd, e]))
        have e1 := hsp p ⟨iA, oA, hA, hAp, eA⟩
        have e2 := hsp r ⟨iC, oC, hC, hCr, eC⟩
        refine ⟨fun ha => ?_, fun hc => ?_⟩
        · rw [getD_set_ne true eA] at ha
          obtain ⟨B, h1, h2, h3, h4⟩ := hj.al ha
          exact ⟨B, by rw [e1]; exact h1, h2, Nat.lt_of_lt_of_le h3 hg.size, h4.grow hg h3⟩
        · rw [getD_set_ne true eC] at hc
          obtain ⟨lo, hi, h1, h2, h3, h4⟩ := hj.cl hc
          refine ⟨lo, hi, by rw [e2]; exact ownKept _ _ _ _ _ (fun k _ h5 => hg.block k (by omega)) h1, h2, Nat.le_trans h3 hg.size, fun ha B hB => ?_⟩
          rw [getD_set_ne true eA] at ha
          rw [e1] at hB
          exact h4 ha B hB
  · intro L a u hf hr hp hj K' hK
    have lA := (hp iA oA hAn hA).1
    have lC := (hp iC oC hCn hC).1
    obtain ⟨B, h1, h2, h3, h4⟩ := hj.al lA
    obtain ⟨lo, hi, g1, g2, g3, g4⟩ := hj.cl lC
    exact fin a u B lo hi hf (hg0 u hr) h1 h2 h3 h4 g1 g2 g3 (g4 lA B h1) (fun j oj h5 h6 => (hp j oj h5 h6).2) K' hK
end
end Go.Proofs.Ytaoiookfmgpmkaa

/-
  A list of numbers that is appended to an empty one: the answer owns new memory.
-/
namespace Go.Proofs.Ytaoiookfmgpmkaa
open Go.ChangeShapes Go.WideShapes Go.ChangeAt Go.RowKit
set_option linter.unusedVariables false

/-- What owns a row owns its numbers. -/
theorem oi_of_owns {w : World} {base : Nat} {v : Value} {xs : List Int} (h : w.ownsRow base 3 1 v xs.length (xs.map (Value.int .i64))) : OI w base w.heap.size v xs := by
  rcases h.2 with ⟨hv, hn⟩ | ⟨g, cap, cur, rfl, hb, hh, hc, hm, _⟩
  · exact .inl ⟨List.eq_nil_of_length_eq_zero hn, none, 0, hv, Nat.zero_le _⟩
  · refine .inr ⟨g, 0, cap, rfl, hc, hm, hb, (Array.getElem?_eq_some_iff.mp hh).1, fun i x hx => ?_, fun i => h.frozenAt _⟩
    have hi : i < xs.length := (List.getElem?_eq_some_iff.mp hx).1
    rw [Nat.zero_add, h.cellAt i (by omega), List.getElem?_map, hx]
    rfl

theorem below_grown {w w' : World} (h : w.grownBy w' none) : Below w.heap.size w w' :=
  (Below.refl _ _).grown h (Nat.le_refl _) (fun k h => by cases h)

/-- 'append([]int{}, xs...)', as one step of a region that draws its order. -/
theorem step_copy {ops : Array Oper} {o : Oper} {a : Act} {u : World} {K : Act → World → Prop} {Q : Exit → Act → World → Prop} {E : Prop}
    (hg : o.guard = none) (s x : Operand) (hop : o.op = Op.call { callee := Callee.builtin Builtin.append, args := #[s, x], argTypes := #[37, 37] })
    {y : Option Addr} (hs : a.eval s = .slice y 0 0) {v : Value} (hx : a.eval x = v) {lo hi : Nat} {xs : List Int} (hv : SI u lo hi v xs) (hn : xs.length ≤ 1048576)
    (hK : ∀ v' u', OI u' u.heap.size u'.heap.size v' xs → Below u.heap.size u u' → K (a.put o.dst v') u') :
    if Region.wanted o (yielded ops a.tmps) = true then Oper.wp Try.prog o a u K Q else E := by
  obtain ⟨ad, cap, rfl, h1, h2, h3⟩ := hv
  obtain ⟨i0, hi0, hz0, hz1, hz2⟩ := info_parts info_int
  by_cases he : xs = []
  · subst he
    rw [if_pos (by simp [Region.wanted, hg])]
    have hK' := hK (.slice y 0 0) u (.inl ⟨rfl, y, 0, rfl, Nat.zero_le _⟩) (Below.refl _ _)
    have hsrc : Src Try.prog i0.size 37 (.slice ad 0 cap) 0 [] u := by
      cases ad with
      | none => exact Src.ofNil _ Try.underlying37 cap
      | some x => exact Src.ofSlice _ Try.underlying37 x 0 cap [] (by simp) (fun j u h => by simp at h) (fun u h => by simp at h)
    have hrun := run_append_nothing (P := Try.prog) u 37 37 o.type 3 i0 Try.underlying37 hi0 y 0 0 (Nat.le_refl _) _ hsrc
    unfold Oper.wp
    simp only [List.length_nil] at hx
    simp [execOp, hop, resolve, invoke, builtin, hs, hx, hrun, Result.andThen]
    exact hK'
  · rcases h3 with h0 | ⟨b, off, rfl, _, _, hc⟩
    · exact absurd h0 he
    have hpos : 0 < xs.length := List.length_pos_iff.mpr he
    refine step_append_grows hg s x 37 hop 3 i0 (.int .i64 0) 1 8 Try.underlying37 hi0 hz0 hz1 hz2 rfl (by decide) y 0 0 [] hs (fun _ => ⟨rfl, rfl⟩) rfl (fun _ _ j u h => by simp at h) ⟨b, off, none⟩ xs.length cap (xs.map (Value.int .i64)) hx (by simp) ?_ ?_ (by omega) (by unfold maxLen; omega) (by omega) ?_
    · intro j z hz
      rw [List.getElem?_map] at hz
      cases hj : xs[j]? with
      | none => rw [hj] at hz; cases hz
      | some q =>
        rw [hj] at hz
        cases hz
        have := hc j q hj
        unfold Addr.add
        split
        · rename_i h; subst h; simpa using this
        · exact this
    · intro z hz
      obtain ⟨q, _, rfl⟩ := List.mem_map.mp hz
      rfl
    · intro v' u' hown hgrow
      rw [Nat.zero_add, List.nil_append] at hown
      exact hK v' u' (oi_of_owns hown) (below_grown hgrow)
end Go.Proofs.Ytaoiookfmgpmkaa

/-
  Numbers that are held: a row of one's own that is cut at its end and appended to, in place where there is room.
-/
namespace Go.Proofs.Ytaoiookfmgpmkaa
open Go.ChangeShapes Go.WideShapes Go.ChangeAt Go.RowKit
set_option linter.unusedVariables false

/-- The cells of numbers. -/
def rowZ (xs : List Int) : List Value := xs.map (Value.int .i64)

theorem rowZ_length (xs : List Int) : (rowZ xs).length = xs.length := by simp [rowZ]

/-- Numbers in a row of one's own, from base on. -/
def RowZ (w : World) (base : Nat) (v : Value) (xs : List Int) : Prop := w.ownsRow base 3 1 v xs.length (rowZ xs)

theorem RowZ.lt {w : World} {base : Nat} {v : Value} {xs : List Int} (h : RowZ w base v xs) : ∀ k, v.ownBlock = some k → base ≤ k ∧ k < w.heap.size := World.ownsRow.lt h

theorem RowZ.shape {w : World} {base : Nat} {v : Value} {xs : List Int} (h : RowZ w base v xs) : ∃ ad cap, v = .slice ad xs.length cap ∧ xs.length ≤ cap ∧ cap ≤ maxLen := by
  rcases h.2 with ⟨rfl, hn⟩ | ⟨g, cap, cur, rfl, hb, hh, hc, hm, _⟩
  · exact ⟨none, 0, by rw [hn], by omega, Nat.zero_le _⟩
  · exact ⟨_, cap, rfl, hc, hm⟩

/-- Where there is a number the row has a block. -/
theorem RowZ.block {w : World} {base : Nat} {v : Value} {xs : List Int} (h : RowZ w base v xs) (hx : 0 < xs.length) : ∃ g cap, v = .slice (some ⟨g, 0, none⟩) xs.length cap ∧ xs.length ≤ cap ∧ cap ≤ maxLen ∧ base ≤ g ∧ g < w.heap.size ∧ ∀ (i : Nat) (x : Int), xs[i]? = some x → w.cell? ⟨g, i, none⟩ = some (.int .i64 x) := by
  have h0 := h
  rcases h.2 with ⟨rfl, hn⟩ | ⟨g, cap, cur, rfl, hb, hh, hc, hm, _⟩
  · omega
  · refine ⟨g, cap, rfl, hc, hm, hb, (Array.getElem?_eq_some_iff.mp hh).1, fun i x hi => ?_⟩
    have hil : i < xs.length := (List.getElem?_eq_some_iff.mp hi).1
    rw [World.ownsRow.cellAt h0 _ (by omega)]
    unfold rowZ
    rw [List.getElem?_map, hi]; rfl

theorem RowZ.at_ {w w' : World} {base : Nat} {v : Value} {xs : List Int} (h : RowZ w base v xs) (hk : ∀ g, v.ownBlock = some g → w'.heap[g]? = w.heap[g]?) : RowZ w' base v xs := by
  refine ⟨h.1, ?_⟩
  rcases h.2 with ⟨rfl, hn⟩ | ⟨g, cap, cur, rfl, hb, hh, r⟩
  · exact .inl ⟨rfl, hn⟩
  · exact .inr ⟨g, cap, cur, rfl, hb, by rw [hk g rfl]; exact hh, r⟩

theorem RowZ.below {w w' : World} {base n : Nat} {v : Value} {xs : List Int} (h : RowZ w base v xs) (hb : Below n w w') (hn : w.heap.size ≤ n) : RowZ w' base v xs :=
  h.at_ fun g hg => hb.block g (by have := (h.lt g hg).2; omega)

theorem RowZ.mono {w : World} {base base' : Nat} {v : Value} {xs : List Int} (h : RowZ w base v xs) (hb : base' ≤ base) : RowZ w base' v xs := by
  refine ⟨h.1, ?_⟩
  rcases h.2 with ⟨rfl, hn⟩ | ⟨g, cap, cur, rfl, hb', r⟩
  · exact .inl ⟨rfl, hn⟩
  · exact .inr ⟨g, cap, cur, rfl, by omega, r⟩

/-- It is cut at its end: what was behind stays in the spare room. -/
theorem RowZ.cut {w : World} {base : Nat} {ad : Option Go.Addr} {cap n : Nat} {xs : List Int} (h : RowZ w base (.slice ad n cap) xs) (k : Nat) (hk : k ≤ xs.length) : RowZ w base (.slice ad k cap) (xs.take k) := by
  have hl : (xs.take k).length = k := by rw [List.length_take]; omega
  refine ⟨by rw [rowZ_length]; omega, ?_⟩
  rw [hl]
  rcases h.2 with ⟨hv, hn⟩ | ⟨g, cap', cur, hv, hb, hh, hc, hm, hs, ht⟩
  · simp only [Value.slice.injEq] at hv
    obtain ⟨rfl, rfl, rfl⟩ := hv
    exact .inl ⟨by congr 1; omega, by omega⟩
  · simp only [Value.slice.injEq] at hv
    obtain ⟨rfl, rfl, rfl⟩ := hv
    refine .inr ⟨g, cap, cur, rfl, hb, hh, by omega, hm, hs, ?_⟩
    unfold rowZ at *
    rw [Nat.mul_one] at ht ⊢
    rw [List.map_take, ← ht, List.take_take, Nat.min_eq_left hk]

/-- No number yet, in a new block. -/
theorem rowZ_none (w : World) (base : Nat) (hb : base ≤ w.heap.size) : RowZ (w.alloc (.cells #[] 3)) base (.slice (some ⟨w.heap.size, 0, none⟩) 0 0) [] :=
  ⟨rfl, .inr ⟨w.heap.size, 0, _, rfl, hb, heap_alloc_new w _, Nat.le_refl _, Nat.zero_le _, rfl, rfl⟩⟩

/-- What an append of one number leaves. -/
structure AppZ (w : World) (base : Nat) (v : Value) (xs : List Int) (v' : Value) (w' : World) : Prop where
  row : RowZ w' base v' xs
  grown : w.grownBy w' v.ownBlock
  at_ : v'.ownBlock = v.ownBlock ∨ v'.ownBlock = some w.heap.size

theorem run_appZ (w : World) (base ty : Nat) (v : Value) (xs : List Int) (b : Nat) (x : Int) (hr : RowZ w base v xs) (hx : w.cell? ⟨b, 0, none⟩ = some (.int .i64 x)) (hb : base ≤ w.heap.size) (hn : xs.length + 1 ≤ 16777216) :
    ∃ v' w', (Builtin.append_ #[37, 37] ty #[v, .slice (some ⟨b, 0, none⟩) 1 1]).run Try.prog w = .ok v' w' ∧ AppZ w base v (xs ++ [x]) v' w' := by
  obtain ⟨i0, hi0, hz0, hz1, hz2⟩ := info_parts info_int
  obtain ⟨v', w', hrun, h2, h3, _, h5⟩ := run_append_own_at (P := Try.prog) w base 37 ty 3 i0 (.int .i64 0) 1 8 Try.underlying37 hi0 hz0 hz1 hz2 rfl (by decide) v xs.length (rowZ xs) hr ⟨b, 0, none⟩ 1 1 [.int .i64 x] rfl (fun j u h => by
      have hj : j = 0 := by have := (List.getElem?_eq_some_iff.mp h).1; simp at this; exact this
      subst hj
      simp at h
      rw [← h]
      exact hx) (fun u h => by simp at h; rw [h]; rfl) (by unfold maxLen; omega) (by omega) hb
  refine ⟨v', w', hrun, ⟨?_, h3, h5⟩⟩
  unfold RowZ rowZ
  rw [List.map_append, List.length_append]
  exact h2

section
variable {ops : Array Oper} {rest : List Oper} {o : Oper} {a : Act} {Q : Exit → Act → World → Prop} {K : Act → World → Prop} {w : World}

theorem step_appZ {E : Prop} (hg : o.guard = none) (s x : Operand) (hop : o.op = .call { callee := .builtin .append, args := #[s, x], argTypes := #[37, 37] })
    (base : Nat) {v : Value} {xs : List Int} {b : Nat} {z : Int} (hs : a.eval s = v) (hx : a.eval x = .slice (some ⟨b, 0, none⟩) 1 1) (hr : RowZ w base v xs) (hc : w.cell? ⟨b, 0, none⟩ = some (.int .i64 z)) (hb : base ≤ w.heap.size) (hl : xs.length + 1 ≤ 16777216)
    (hK : ∀ v' w', AppZ w base v (xs ++ [z]) v' w' → K (a.put o.dst v') w') :
    if Region.wanted o (yielded ops a.tmps) = true then Oper.wp Try.prog o a w K Q else E := by
  rw [if_pos (by simp [Region.wanted, hg])]
  obtain ⟨v', w', hrun, h⟩ := run_appZ w base o.type v xs b z hr hc hb hl
  unfold Oper.wp execOp
  simp only [hop, resolve, invoke, builtin, Sem.run_bind, Sem.run_pure, Result.andThen_ok, List.map_toArray, List.map_cons, List.map_nil, hs, hx, hrun]
  exact hK v' w' h
end

section
variable {ops : Array Oper} {rest : List Oper} {o : Oper} {a : Act} {Q : Exit → Act → World → Prop} {w : World}

theorem wpList_appZ (hg : o.guard = none) (s x : Operand) (hop : o.op = .call { callee := .builtin .append, args := #[s, x], argTypes := #[37, 37] })
    (base : Nat) {v : Value} {xs : List Int} {b : Nat} {z : Int} (hs : a.eval s = v) (hx : a.eval x = .slice (some ⟨b, 0, none⟩) 1 1) (hr : RowZ w base v xs) (hc : w.cell? ⟨b, 0, none⟩ = some (.int .i64 z)) (hb : base ≤ w.heap.size) (hl : xs.length + 1 ≤ 16777216)
    (hK : Hid (∀ v' w', AppZ w base v (xs ++ [z]) v' w' → wpList Try.prog ops Q rest (a.put o.dst v') w')) : wpList Try.prog ops Q (o :: rest) a w :=
  wpList_step fun _ hK' => step_appZ (E := _) hg s x hop base hs hx hr hc hb hl fun v' w' h => hK' _ _ (hK.out v' w' h)
end

theorem AppZ.below {w w' : World} {base n : Nat} {v v' : Value} {xs ys : List Int} (h : AppZ w base v xs v' w') (hr : RowZ w base v ys) (hn : n ≤ base) (hb : base ≤ w.heap.size) : Below n w w' :=
  (Below.refl n w).grown h.grown (by omega) fun k hk => by have := (hr.lt k hk).1; omega
end Go.Proofs.Ytaoiookfmgpmkaa

/-
  A piece of a block that may be written (Room), and what calls that write leave of numbers outside of it.
-/
namespace Go.Proofs.Ytaoiookfmgpmkaa
open Go.ChangeShapes Go.WideShapes Go.ChangeAt Go.RowKit
set_option linter.unusedVariables false

/-- A row that grew is numbers of one's own. -/
theorem RowZ.oi {w : World} {base : Nat} {v : Value} {xs : List Int} (h : RowZ w base v xs) : OI w base w.heap.size v xs := oi_of_owns h

/-- A piece of a block that may be written, and what has been written was written into that block. -/
structure Room (w : World) (g off m : Nat) (wr : World) : Prop where
  out : Out g (g + 1) w wr
  lt : g < wr.heap.size
  some_ : ∀ x, off ≤ x → x < off + m → (wr.cell? ⟨g, x, none⟩).isSome = true
  frozen : ∀ x, wr.frozen? ⟨g, off + x, none⟩ = false

theorem Room.fz {w wr : World} {g off m : Nat} (h : Room w g off m wr) (x : Nat) (hx : off ≤ x) : wr.frozen? ⟨g, x, none⟩ = false := by
  have := h.frozen (x - off)
  rwa [Nat.add_sub_cancel' hx] at this

theorem Room.next {w wr u : World} {g off m x : Nat} {z : Value} (h : Room w g off m wr) (hL : LaidG wr u g x [z]) : Room w g off m u := by
  have hb := hL.below 0 wr (Nat.zero_le _) (Below.refl _ _)
  refine ⟨h.out.trans ⟨hb.os, hb.tape, hb.output, by rw [hL.size]; exact Nat.le_refl _, fun q hq hr => hL.block q (by omega)⟩, by rw [hL.size]; exact h.lt, fun y h1 h2 => ?_, fun y => by rw [hL.frozen]; exact h.frozen y⟩
  by_cases e : y = x
  · subst e
    have := hL.cv 0 z rfl
    rw [Nat.add_zero] at this
    rw [this]; rfl
  · rw [hL.cell _ _ (by simp only [List.length_cons, List.length_nil]; omega)]
    exact h.some_ y h1 h2

theorem room_of {α : Type} {E : Elem α} {w : World} {hi b off : Nat} {xs : List α} (hhi : hi ≤ w.heap.size) (h4 : b < hi)
    (h5 : ∀ (i : Nat) (x : α), xs[i]? = some x → CV w b (off + i * E.k) (E.cells x)) (h6 : ∀ o, w.frozen? ⟨b, off + o, none⟩ = false) (hl : ∀ x, (E.cells x).length = E.k) (hk : 0 < E.k) : Room w b off (xs.length * E.k) w := by
  refine ⟨⟨rfl, rfl, rfl, Nat.le_refl _, fun _ _ _ => rfl⟩, by omega, fun x h1 h2 => ?_, h6⟩
  have hq : (x - off) / E.k < xs.length := by
    rw [Nat.div_lt_iff_lt_mul hk]; omega
  have hm : (x - off) % E.k < E.k := Nat.mod_lt _ hk
  have hd := Nat.div_add_mod (x - off) E.k
  have hc := h5 _ _ (List.getElem?_eq_getElem hq) ((x - off) % E.k) _ (List.getElem?_eq_getElem (by rw [hl]; exact hm))
  have e : off + (x - off) / E.k * E.k + (x - off) % E.k = x := by rw [Nat.mul_comm] at hd; omega
  rw [e] at hc
  rw [hc]; rfl

theorem Out.widen {lo hi lo' hi' : Nat} {w u : World} (h : Out lo hi w u) (h1 : lo' ≤ lo) (h2 : hi ≤ hi') : Out lo' hi' w u :=
  ⟨h.os, h.tape, h.output, h.size, fun k hk ho => h.block k hk (by omega)⟩
theorem OI.out {w w' : World} {lo hi lo' hi' : Nat} {v : Value} {xs : List Int} (h : OI w lo hi v xs) (g : Out lo' hi' w w') (h1 : hi ≤ lo' ∨ hi' ≤ lo) (hs : hi ≤ w.heap.size) : OI w' lo hi v xs :=
  h.kept fun k q1 q2 => g.block k (by omega) (by omega)
theorem OI.footR {w : World} {lo hi : Nat} {v : Value} {xs : List Int} (h : OI w lo hi v xs) {b o : Nat} (f : Foot v xs.length b o) : lo ≤ b ∧ b < hi := by
  obtain ⟨g, off, l, cap, hv, hb, h1, h2⟩ := f
  rcases h with ⟨rfl, a, c, hv', _⟩ | ⟨g', off', cap', hv', _, _, h3, h4, _⟩
  · simp at h2; omega
  · rw [hv'] at hv
    simp only [Value.slice.injEq, Option.some.injEq, Addr.mk.injEq, and_true] at hv
    obtain ⟨⟨rfl, _⟩, _⟩ := hv
    omega

theorem OI.wroteOut {w w' : World} {lo hi : Nat} {v : Value} {xs : List Int} (h : OI w lo hi v xs) (g : Wrote (Foot v xs.length) w w') (hs : hi ≤ w.heap.size) : Out lo hi w w' :=
  ⟨g.os, g.tape, g.output, by rw [g.size]; exact Nat.le_refl _, fun k hk ho => g.block k fun o f => by have := h.footR f; omega⟩
end Go.Proofs.Ytaoiookfmgpmkaa

/-
  Elements that are marked in place, one number a cell, and read back; lists of bools: eqBoolS, markBoolS, heldBoolS.
-/
namespace Go.Proofs.Ytaoiookfmgpmkaa
open Go.ChangeShapes Go.WideShapes Go.ChangeAt Go.RowKit
set_option linter.unusedVariables false
set_option linter.unusedSimpArgs false
set_option maxRecDepth 100000

/-- A bool's mark. -/
def mB (k : Int) : Bool := k % 3 == 0
def bool2 : Elem Bool := ⟨fun x => [.bool x], 1, by decide, fun _ => rfl, fun x v hv => by simp at hv; rw [hv]; rfl⟩

section
variable {α : Type} {E : Elem α}

/-- Marks of n elements from k on, element i's being f of its own number. -/
def marksG (E : Elem α) (f : Int → α) (k : Int) (n : Nat) : List α := (List.range n).map fun i => f (k + ((E.k * i : Nat) : Int))
theorem marksG_length (f : Int → α) (k : Int) (n : Nat) : (marksG E f k n).length = n := by simp [marksG]
theorem marksG_at {f : Int → α} {k : Int} {n i : Nat} (h : i < n) : (marksG E f k n)[i]? = some (f (k + ((E.k * i : Nat) : Int))) := by simp [marksG, h]

/-- What holds as j elements of a list have been marked in place. -/
structure MarkG (E : Elem α) (f : Int → α) (k : Int) (w : World) (g off n j : Nat) (wr : World) : Prop where
  room : Room w g off (n * E.k) wr
  done : ∀ i, i < j → CV wr g (off + i * E.k) (E.cells (f (k + ((E.k * i : Nat) : Int))))

theorem MarkG.store {f : Int → α} {k : Int} {w wr u : World} {g off n j x : Nat} {z : Value} (h : MarkG E f k w g off n j wr) (hL : LaidG wr u g x [z]) (hx : off + j * E.k ≤ x) : MarkG E f k w g off n j u := by
  refine ⟨h.room.next hL, fun i hi p v hp => ?_⟩
  have hlen : p < E.k := by have := (List.getElem?_eq_some_iff.mp hp).1; rwa [E.len] at this
  have hij : i * E.k + E.k ≤ j * E.k := by rw [← Nat.succ_mul]; exact Nat.mul_le_mul_right _ (by omega)
  rw [hL.cell _ _ (.inr (.inl (by omega)))]
  exact h.done i hi p v hp

theorem MarkG.next {f : Int → α} {k : Int} {w wr : World} {g off n j : Nat} (h : MarkG E f k w g off n j wr) (hc : CV wr g (off + j * E.k) (E.cells (f (k + ((E.k * j : Nat) : Int))))) : MarkG E f k w g off n (j + 1) wr :=
  ⟨h.room, fun i hi => by
    by_cases e : i = j
    · subst e; exact hc
    · exact h.done i (by omega)⟩

/-- A prefix of an element's cells. -/
theorem cv_nil (w : World) (b o : Nat) : CV w b o [] := fun j v hv => by simp at hv
theorem CV.snoc {w u : World} {b o x : Nat} {vs : List Value} {z : Value} (h : CV w b o vs) (hL : LaidG w u b x [z]) (hx : x = o + vs.length) : CV u b o (vs ++ [z]) := by
  intro j v hv
  by_cases hj : j < vs.length
  · rw [List.getElem?_append_left hj] at hv
    rw [hL.cell _ _ (.inr (.inl (by omega)))]
    exact h j v hv
  · have hlen := (List.getElem?_eq_some_iff.mp hv).1
    simp only [List.length_append, List.length_cons, List.length_nil] at hlen
    obtain rfl : j = vs.length := by omega
    rw [List.getElem?_append_right (Nat.le_refl _), Nat.sub_self] at hv
    simp at hv
    subst hv
    have := hL.cv 0 z rfl
    rwa [hx, Nat.add_zero] at this

theorem MarkG.go {f : Int → α} {k : Int} {w wr : World} {lo hi g off cap : Nat} {xs : List α} (h : MarkG E f k w g off xs.length xs.length wr) (h1 : xs.length ≤ cap) (h2 : cap ≤ maxLen) (h3 : lo ≤ g) (h4 : g < hi) :
    GO E wr lo hi (.slice (some ⟨g, off, none⟩) xs.length cap) (marksG E f k xs.length) :=
  .inr ⟨g, off, cap, by rw [marksG_length], by rw [marksG_length]; exact h1, h2, h3, h4, fun i x hx => by
      have hi' : i < xs.length := by have := (List.getElem?_eq_some_iff.mp hx).1; rwa [marksG_length] at this
      rw [marksG_at hi'] at hx
      cases hx
      exact h.done i hi', h.room.frozen⟩

theorem MarkG.out {f : Int → α} {k : Int} {w wr : World} {lo hi g off n j : Nat} (h : MarkG E f k w g off n j wr) (h3 : lo ≤ g) (h4 : g < hi) : Out lo hi w wr := h.room.out.widen h3 (by omega)

theorem GO.out {w w' : World} {lo hi lo' hi' : Nat} {v : Value} {xs : List α} (h : GO E w lo hi v xs) (g : Out lo' hi' w w') (h1 : hi ≤ lo' ∨ hi' ≤ lo) (hs : hi ≤ w.heap.size) : GO E w' lo hi v xs :=
  h.kept fun k q1 q2 => g.block k (by omega) (by omega)
theorem GO.shapeO {w : World} {lo hi : Nat} {v : Value} {xs : List α} (h : GO E w lo hi v xs) : ∃ a cap, v = .slice a xs.length cap := by
  obtain ⟨a, cap, hv, _⟩ := h.gr.shape; exact ⟨a, cap, hv⟩
end

set_option maxHeartbeats 2000000 in
theorem eqBoolS_same (w : World) (lo hi lo' hi' : Nat) (va vb : Value) (ps : List Bool) (ha : GR bool2 w lo hi va ps) (hb' : GR bool2 w lo' hi' vb ps) (hhi : hi ≤ w.heap.size) (hhi' : hi' ≤ w.heap.size) :
    Calls Try.prog 73 #[va, vb] w fun e w' => e = .returned (.bool true) ∧ Below w.heap.size w w' := by
  obtain ⟨ad, cap, rfl, h1, h2⟩ := ha.shape
  obtain ⟨ad', cap', rfl, h1', h2'⟩ := hb'.shape
  have HK : Hid (GR bool2 w lo hi (.slice ad ps.length cap) ps ∧ GR bool2 w lo' hi' (.slice ad' ps.length cap') ps) := ⟨ha, hb'⟩
  clear ha hb'
  unfold maxLen at h2 h2'
  have hl2 : ((ps.length : Int) != (ps.length : Int)) = false := by simp
  go_enter Try.func73, Try.ntmps73
  go_wp2_with fail
  go_loopw [5] (fun i wr => ∃ j : Nat, j ≤ ps.length ∧ i = .int .i64 j ∧ Below w.heap.size w wr) (fun i _ => ps.length - (intOf i).toNat)
  case atStart => exact ⟨0, Nat.zero_le _, rfl, Below.refl _ _⟩
  case round =>
    obtain ⟨j, hj, rfl, hb⟩ := hrel
    have hsz := hb.size
    by_cases hlt : j < ps.length
    · obtain ⟨x, hx⟩ : ∃ x, ps[j]? = some x := ⟨ps[j], List.getElem?_eq_getElem hlt⟩
      obtain ⟨b, off, capx, hv, hb1, hb2, h5⟩ := HK.out.1.at_ hx
      obtain ⟨b', off', capy, hv', hb1', hb2', h5'⟩ := HK.out.2.at_ hx
      simp only [Value.slice.injEq, true_and] at hv hv'
      obtain ⟨rfl, rfl⟩ := hv
      obtain ⟨rfl, rfl⟩ := hv'
      have c1 : wr.cell? ⟨b, off + j, none⟩ = some (.bool x) := by
        have := (h5.below hb (by omega)) 0 (.bool x) rfl
        rwa [Nat.add_zero, show j * bool2.k = j from Nat.mul_one j] at this
      have c2 : wr.cell? ⟨b', off' + j, none⟩ = some (.bool x) := by
        have := (h5'.below hb (by omega)) 0 (.bool x) rfl
        rwa [Nat.add_zero, show j * bool2.k = j from Nat.mul_one j] at this
      have hxx : (x != x) = false := by simp
      have HB : Hid (Below w.heap.size w wr) := hb
      clear hx h5 h5' hb
      go_wp2_with fail
      go_quiet (fail)
      go_wp2
      go_roundw
      case rel => exact ⟨j + 1, by omega, by go_num, below_drewN HB.out nq⟩
      case measure => simp [intOf]; omega
    · obtain rfl : j = ps.length := by omega
      go_wp2
      go_ret
      exact ⟨rfl, hb⟩


end Go.Proofs.Ytaoiookfmgpmkaa

/-
  What chapter 6's model (package spec) answers: BlockNew, BlockOk; and the law's toBlock and eqBlock.
-/
namespace Go.Proofs.Ytaoiookfmgpmkaa
open Go.ChangeShapes Go.WideShapes Go.ChangeAt Go.RowKit
set_option linter.unusedVariables false

theorem below_al {w u : World} (h : Below w.heap.size w u) (o : Obj) : Below w.heap.size w (u.alloc o) := h.alloc h.size o
theorem below_se {w u : World} (h : Below w.heap.size w u) {b o : Nat} (hb : w.heap.size ≤ b) (v : Value) : Below w.heap.size w (u.setCell ⟨b, o, none⟩ v) := h.setCell (p := ⟨b, o, none⟩) hb v
theorem below_dr {w u : World} (h : Below w.heap.size w u) : Below w.heap.size w u.drew := h.drew

/-- The five cells of a block that may be written. -/
structure CellB (w : World) (B : Nat) (b : BlockD) : Prop where
  c0 : w.cell? ⟨B, 0, none⟩ = some (.int .i64 b.kind)
  c1 : w.cell? ⟨B, 1, none⟩ = some (.int .i64 b.n)
  c2 : w.cell? ⟨B, 2, none⟩ = some (.bool b.on)
  c3 : w.cell? ⟨B, 3, none⟩ = some (.bool b.was)
  c4 : w.cell? ⟨B, 4, none⟩ = some (.int .i64 b.t)
  f : ∀ o, w.frozen? ⟨B, o, none⟩ = false

theorem CellB.at_ {w w' : World} {B : Nat} {b : BlockD} (h : CellB w B b) (hk : w'.heap[B]? = w.heap[B]?) : CellB w' B b :=
  ⟨by rw [World.cell?_of_block (w := w) hk]; exact h.c0, by rw [World.cell?_of_block (w := w) hk]; exact h.c1, by rw [World.cell?_of_block (w := w) hk]; exact h.c2, by rw [World.cell?_of_block (w := w) hk]; exact h.c3, by rw [World.cell?_of_block (w := w) hk]; exact h.c4, fun o => by rw [World.frozen?_of_block (w := w) hk]; exact h.f o⟩
theorem CellB.below {w w' : World} {B n : Nat} {b : BlockD} (h : CellB w B b) (hb : Below n w w') (hB : B < n) : CellB w' B b := h.at_ (hb.block B hB)
theorem cellB_new (w : World) (b : BlockD) (t : TypeId) : CellB (w.alloc (.cells #[.int .i64 b.kind, .int .i64 b.n, .bool b.on, .bool b.was, .int .i64 b.t] t)) w.heap.size b :=
  ⟨World.cell?_alloc_new _ _ _ _, World.cell?_alloc_new _ _ _ _, World.cell?_alloc_new _ _ _ _, World.cell?_alloc_new _ _ _ _, World.cell?_alloc_new _ _ _ _, fun o => World.frozen?_alloc_new _ _ _ _⟩
theorem CellB.other {w : World} {B : Nat} {b : BlockD} (h : CellB w B b) {b' o : Nat} (hb : B ≠ b') (v : Value) : CellB (w.setCell ⟨b', o, none⟩ v) B b :=
  h.at_ (Below.heap_setCell _ _ _ _ hb)

/-- Five stores leave the block that they write. -/
theorem cellB_store {w : World} {B : Nat} {b0 : BlockD} (h : CellB w B b0) (b : BlockD) :
    CellB (((((w.setCell ⟨B, 0, none⟩ (.int .i64 b.kind)).setCell ⟨B, 1, none⟩ (.int .i64 b.n)).setCell ⟨B, 2, none⟩ (.bool b.on)).setCell ⟨B, 3, none⟩ (.bool b.was)).setCell ⟨B, 4, none⟩ (.int .i64 b.t)) B b := by
  obtain ⟨c0, c1, c2, c3, c4, f⟩ := h
  refine ⟨?_, ?_, ?_, ?_, ?_, fun o => by simp only [World.frozen?_setCell]; exact f o⟩
  · rw [cell_set_other _ (.inr (by decide)), cell_set_other _ (.inr (by decide)), cell_set_other _ (.inr (by decide)), cell_set_other _ (.inr (by decide))]
    exact World.cell?_setCell_same' _ _ _ (by rw [c0]; rfl)
  · rw [cell_set_other _ (.inr (by decide)), cell_set_other _ (.inr (by decide)), cell_set_other _ (.inr (by decide))]
    exact World.cell?_setCell_same' _ _ _ (by rw [cell_set_other _ (.inr (by decide)), c1]; rfl)
  · rw [cell_set_other _ (.inr (by decide)), cell_set_other _ (.inr (by decide))]
    exact World.cell?_setCell_same' _ _ _ (by rw [cell_set_other _ (.inr (by decide)), cell_set_other _ (.inr (by decide)), c2]; rfl)
  · rw [cell_set_other _ (.inr (by decide))]
    exact World.cell?_setCell_same' _ _ _ (by rw [cell_set_other _ (.inr (by decide)), cell_set_other _ (.inr (by decide)), cell_set_other _ (.inr (by decide)), c3]; rfl)
  · exact World.cell?_setCell_same' _ _ _ (by rw [cell_set_other _ (.inr (by decide)), cell_set_other _ (.inr (by decide)), cell_set_other _ (.inr (by decide)), cell_set_other _ (.inr (by decide)), c4]; rfl)

theorem numB_kinds {k : Int} (h : k = 1 ∨ k = 2 ∨ k = 3) (n : Int) : numB k n = (decide (0 ≤ n) && decide (n ≤ 1000)) := by unfold numB mostB; rw [if_pos h]
theorem numB_last {k : Int} (h : k = 4 ∨ k = 5) (n : Int) : numB k n = decide (n = 0) := by
  unfold numB mostB; rw [if_neg (by omega), if_pos h]
  by_cases h : n = 0
  · subst h; rfl
  · rw [decide_eq_false h]; simp; omega
theorem numB_none {k : Int} (h : k < 1 ∨ 5 < k) (n : Int) : numB k n = false := by
  unfold numB mostB; rw [if_neg (by omega), if_neg (by omega)]; simp; omega




set_option maxHeartbeats 1000000 in
theorem toBlock_any (w : World) (b : BlockD) :
    Calls Try.prog 83 #[b.val] w fun e w' => e = .returned b.val ∧ Below w.heap.size w w' := by
  obtain ⟨k, n, on, was, t⟩ := b
  unfold BlockD.val
  simp only
  go_enter Try.func83, Try.ntmps83
  go_wp2
  refine bodyPost_ret (v := .agg #[.int .i64 k, .int .i64 n, .bool on, .bool was, .int .i64 t]) ?_ rfl ⟨rfl, ?_⟩
  · simp [results, Try.results83, go_sem]
  · repeat first | exact Below.refl _ _ | apply below_al | refine below_se ?_ (by simp <;> omega) _

set_option maxHeartbeats 1000000 in
theorem eqBlock_same (w : World) (b : BlockD) :
    Calls Try.prog 91 #[b.val, b.val] w fun e w' => e = .returned (.bool true) ∧ Below w.heap.size w w' := by
  obtain ⟨k, n, on, was, t⟩ := b
  unfold BlockD.val
  simp only
  have e1 : (k != k) = false := by simp
  have e2 : (n != n) = false := by simp
  have e3 : (t != t) = false := by simp
  have e4 : (on != on) = false := by simp
  have e5 : (was != was) = false := by simp
  go_enter Try.func91, Try.ntmps91
  go_wp2
  go_ret
  exact ⟨rfl, by repeat first | exact Below.refl _ _ | apply below_al⟩
end Go.Proofs.Ytaoiookfmgpmkaa
