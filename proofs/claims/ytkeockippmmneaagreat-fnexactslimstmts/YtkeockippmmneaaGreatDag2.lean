/-
  Two more laws on regions that draw their order. One: what has been done is shut under the edges (an operation that is done has those done for which it waits). Two: a region whose last operations wait for all that stand ahead: the first are walked once each, the last in the text's order.
-/
import Derived.Test.YtkeockippmmneaaGreatDag
namespace Go.Proofs.YtkeockippmmneaaGreat
open Go.RowKit

/-- Every edge that binds leads back. -/
def backB2 (ops : Array Oper) : Bool := (List.range ops.size).all fun i => ((ops[i]?).map fun o => o.after.all fun e => !Region.binds .any e || decide (e.on < i)).getD true

theorem back_of2 {ops : Array Oper} (h : backB2 ops = true) {i : Nat} {o : Oper} (hi : ops[i]? = some o) {e : Edge} (he : e ∈ o.after) (hb : Region.binds .any e = true) : e.on < i := by
  have li : i < ops.size := (Array.getElem?_eq_some_iff.mp hi).1
  have h1 := List.all_eq_true.mp h i (List.mem_range.mpr li)
  simp only [hi, Option.map_some, Option.getD_some] at h1
  have := Array.all_eq_true'.mp h1 e he
  simpa [hb] using this

/-- The operation waits for that other one. -/
def waitsB (ops : Array Oper) (i j : Nat) : Bool := ((ops[i]?).map fun o => o.after.any fun e => Region.binds .any e && e.on == j).getD false

/-- What is done is shut under the edges. -/
def Closed (ops : Array Oper) (L : Array Bool) : Prop :=
  ∀ (j : Nat) (oj : Oper), ops[j]? = some oj → L.getD j true = true → ∀ e ∈ oj.after, Region.binds .any e = true → L.getD e.on true = true

theorem Closed.wait {ops : Array Oper} {L : Array Bool} (h : Closed ops L) {i j : Nat} (hw : waitsB ops i j = true) (hi : L.getD i true = true) : L.getD j true = true := by
  unfold waitsB at hw
  cases ho : ops[i]? with
  | none => rw [ho] at hw; simp at hw
  | some o =>
    simp only [ho, Option.map_some, Option.getD_some] at hw
    obtain ⟨e, hm, h2⟩ := Array.any_eq_true'.mp hw
    simp at h2
    rw [← h2.2]
    exact h i o ho hi e hm h2.1

theorem Closed.not {ops : Array Oper} {L : Array Bool} (h : Closed ops L) {i j : Nat} (hw : waitsB ops i j = true) (hj : L.getD j true = false) : L.getD i true = false := by
  cases hi : L.getD i true with
  | false => rfl
  | true => rw [h.wait hw hi] at hj; cases hj

section
variable {P : Program} {ops : Array Oper} {Q : Exit → Act → World → Prop}

theorem all_listed2 (hback : backB2 ops = true) {L : Array Bool} (hsz : L.size = ops.size) (h : Region.ready .any ops L = []) : ∀ n i, i < n → L.getD i true = true := by
  intro n
  induction n with
  | zero => intro i hi; omega
  | succ n ih =>
    intro i hi
    by_cases hlt : i < n
    · exact ih i hlt
    obtain rfl : i = n := by omega
    rcases Nat.lt_or_ge i ops.size with h' | h'
    · cases hL : L.getD i true with
      | true => rfl
      | false =>
        have hmem : i ∈ Region.ready .any ops L := by
          unfold Region.ready
          rw [List.mem_filter]
          refine ⟨List.mem_range.mpr h', ?_⟩
          obtain ⟨o, ho⟩ : ∃ o, ops[i]? = some o := ⟨ops[i], Array.getElem?_eq_getElem h'⟩
          simp only [hL, ho, Option.map_some, Option.getD_some, Bool.not_false, Bool.true_and]
          rw [Array.all_eq_true']
          intro e he
          cases hb : Region.binds .any e with
          | false => simp
          | true =>
            have hlt' := back_of2 hback ho he hb
            have := ih e.on hlt'
            have hsz' : e.on < L.size := by omega
            simp [hsz'] at this ⊢
            exact this
        rw [h] at hmem
        cases hmem
    · simp [Array.getElem?_eq_none (show L.size ≤ i by omega)]

variable {a0 : Act} {w0 : World} {R : World → World → Prop} {Φ : Nat → Value → World → Prop} {J : Array Bool → Act → World → Prop}

theorem closed_set {L : Array Bool} (h : Closed ops L) {i : Nat} {o : Oper} (ho : ops[i]? = some o) (he : ∀ e ∈ o.after, Region.binds .any e = true → L.getD e.on true = true) : Closed ops (L.setIfInBounds i true) := by
  have hk : ∀ k, L.getD k true = true → (L.setIfInBounds i true).getD k true = true := fun k hk => by
    by_cases e : i = k
    · subst e
      rcases Nat.lt_or_ge i L.size with h' | h'
      · simp [h']
      · simp
    · rw [getD_set_ne true e]; exact hk
  intro j oj hj hl e hm hb
  by_cases e' : i = j
  · subst e'
    rw [ho] at hj; cases hj
    exact hk _ (he e hm hb)
  · rw [getD_set_ne true e'] at hl
    exact hk _ (h j oj hj hl e hm hb)

/-- A region that draws its order: each operation is walked once; what is done is shut under the edges. -/
theorem wp_region_dagC {id : Nat} (hm : P.follows .mixedOrders = true) (hback : backB2 ops = true) (hown : ownSlotsB ops = true)
    (hR0 : R w0.drew w0.drew) (hRt : ∀ a b c, R a b → R b c → R a c)
    (stab : ∀ j v w w', R w w' → Φ j v w → Φ j v w')
    (hJ0 : J (Array.replicate ops.size false) a0 w0.drew)
    (step : ∀ (i : Nat) (o : Oper), ops[i]? = some o → ∀ (L : Array Bool) (a : Act) (w : World), Frames ops a0 a → R w0.drew w → L.size = ops.size → L.getD i true = false → Closed ops L →
      (∀ (j : Nat) (oj : Oper), ops[j]? = some oj → L.getD j true = true → Φ j (slotOf oj a) w) →
      (∀ e ∈ o.after, Region.binds .any e = true → L.getD e.on true = true) → J L a w →
      ∀ K' : Act → World → Prop, (∀ v w', R w w' → Φ i (slotOf o (a.put o.dst v)) w' → J (L.setIfInBounds i true) (a.put o.dst v) w' → K' (a.put o.dst v) w') →
        if Region.wanted o (yielded ops a.tmps) = true then Oper.wp P o a w K' Q else K' (a.put o.dst undef) w)
    (fin : ∀ (L : Array Bool) (a : Act) (w : World), Frames ops a0 a → R w0.drew w → (∀ (j : Nat) (oj : Oper), ops[j]? = some oj → L.getD j true = true ∧ Φ j (slotOf oj a) w) → J L a w → Q .normal a w) :
    (Code.region id ops true).wp P Q a0 w0 := by
  refine wp_region_any hm ?_
  have main : ∀ (fuel : Nat) (L : Array Bool) (a : Act) (w : World), L.size = ops.size → unlisted L ≤ fuel → Closed ops L → Frames ops a0 a → R w0.drew w →
      (∀ (j : Nat) (oj : Oper), ops[j]? = some oj → L.getD j true = true → Φ j (slotOf oj a) w) → J L a w → wpAny P .any ops Q fuel L a w := by
    intro fuel
    induction fuel with
    | zero =>
      intro L a w hsz hu hcl hf hr hp hj
      have hz := unlisted_zero (L := L) (by omega)
      refine ⟨?_, fin L a w hf hr (fun j oj hj => ⟨hz j, hp j oj hj (hz j)⟩) hj⟩
      rw [List.eq_nil_iff_forall_not_mem]
      intro i hi
      have := (mem_ready.1 hi).1
      rw [hz i] at this; cases this
    | succ fuel ih =>
      intro L a w hsz hu hcl hf hr hp hj
      refine ⟨fun hn => fin L a w hf hr (fun j oj hj => ⟨all_listed2 hback hsz hn (j + 1) j (by omega), hp j oj hj (all_listed2 hback hsz hn (j + 1) j (by omega))⟩) hj, fun i hi => ?_⟩
      obtain ⟨hL, o, ho, hall⟩ := mem_ready.1 hi
      have hafter : ∀ e ∈ o.after, Region.binds .any e = true → L.getD e.on true = true := fun e he hb => by
        have := hall e he hb
        rcases Nat.lt_or_ge e.on L.size with h' | h'
        · simp [h'] at this ⊢; exact this
        · simp [Array.getElem?_eq_none h']
      refine wpOp_step ho fun K' hK' => step i o ho L a w hf hr hsz hL hcl hp hafter hj K' fun v w' hr' hphi hj' => hK' _ _ (ih _ _ _ (by simp [hsz]) (by have := unlisted_set hL; omega) (closed_set hcl ho hafter) (hf.put ho v) (hRt _ _ _ hr hr') ?_ hj')
      intro j oj hj hl
      by_cases e : i = j
      · subst e
        rw [ho] at hj; cases hj
        exact hphi
      · rw [slotOf_put hown ho hj e]
        rw [getD_set_ne true e] at hl
        exact stab j _ w w' hr' (hp j oj hj hl)
  exact main ops.size _ a0 _ (by simp) (by simp [unlisted, List.countP_replicate]) (by
    intro j oj hj hl
    have hjl : j < ops.size := (Array.getElem?_eq_some_iff.mp hj).1
    simp [hjl] at hl) ⟨rfl, rfl, fun _ _ => rfl⟩ hR0 (by
    intro j oj hj hl
    have hjl : j < ops.size := (Array.getElem?_eq_some_iff.mp hj).1
    simp [hjl] at hl) hJ0

/-- The operations of these numbers, one after another. -/
def tailWp (P : Program) (ops : Array Oper) (Q : Exit → Act → World → Prop) : List Nat → Act → World → Prop
  | [], a, w => Q .normal a w
  | i :: is, a, w => ∀ o, ops[i]? = some o → ∀ K' : Act → World → Prop, (∀ a' w', tailWp P ops Q is a' w' → K' a' w') → if Region.wanted o (yielded ops a.tmps) = true then Oper.wp P o a w K' Q else K' (a.put o.dst undef) w

/-- From this number on each operation waits for all that stand ahead. -/
def tailB (ops : Array Oper) (m : Nat) : Bool := (List.range ops.size).all fun t => decide (t < m) || lastB ops t

theorem tail_of {m t : Nat} (h : tailB ops m = true) (hm : m ≤ t) (ht : t < ops.size) : lastB ops t = true := by
  have := List.all_eq_true.mp h t (List.mem_range.mpr ht)
  have hn : ¬ t < m := by omega
  simpa [hn] using this

theorem range_from (t k : Nat) : List.range' t (k + 1) = t :: List.range' (t + 1) k := by rw [List.range'_succ]

theorem wp_tail_seq {m : Nat} (hback : backB2 ops = true) (hT : tailB ops m = true) : ∀ (k fuel t : Nat) (L : Array Bool) (a : Act) (w : World), ops.size = t + k → k ≤ fuel → m ≤ t → L.size = ops.size → (∀ j, j < t → L.getD j true = true) → (∀ j, t ≤ j → j < ops.size → L.getD j true = false) →
    tailWp P ops Q (List.range' t k) a w → wpAny P .any ops Q fuel L a w := by
  intro k
  induction k with
  | zero =>
    intro fuel t L a w hs hf hmt hsz hl hu hq
    have hall : Region.ready .any ops L = [] := by
      rw [List.eq_nil_iff_forall_not_mem]
      intro i hi
      obtain ⟨h1, o, ho, _⟩ := mem_ready.1 hi
      have : i < ops.size := (Array.getElem?_eq_some_iff.mp ho).1
      rw [hl i (by omega)] at h1; cases h1
    cases fuel with
    | zero => exact ⟨hall, hq⟩
    | succ fuel => exact ⟨fun _ => hq, fun i hi => by rw [hall] at hi; cases hi⟩
  | succ k ih =>
    intro fuel t L a w hs hf hmt hsz hl hu hq
    cases fuel with
    | zero => omega
    | succ fuel =>
      have htl : t < ops.size := by omega
      obtain ⟨ot, hot⟩ : ∃ o, ops[t]? = some o := ⟨ops[t], Array.getElem?_eq_getElem htl⟩
      refine ⟨fun hn => ?_, fun i hi => ?_⟩
      · have h1 := all_listed2 hback hsz hn (t + 1) t (by omega)
        rw [hu t (Nat.le_refl _) htl] at h1; cases h1
      · obtain ⟨h1, o, ho, hall⟩ := mem_ready.1 hi
        have hil : i < ops.size := (Array.getElem?_eq_some_iff.mp ho).1
        have hti : t ≤ i := by
          rcases Nat.lt_or_ge i t with h' | h'
          · rw [hl i h'] at h1; cases h1
          · exact h'
        have hit : i = t := by
          rcases Nat.lt_or_ge t i with h' | h'
          · obtain ⟨e, he, hb, rfl⟩ := last_of (tail_of hT (by omega) hil) ho h'
            have := hall e he hb
            have h2 := hu e.on (Nat.le_refl _) htl
            have h3 : e.on < L.size := by omega
            simp [h3] at this h2
            rw [this] at h2; cases h2
          · omega
        subst hit
        rw [hot] at ho; cases ho
        rw [range_from] at hq
        refine wpOp_step hot fun K' hK' => hq ot hot K' fun a' w' ht => hK' _ _ (ih fuel (i + 1) _ a' w' (by omega) (by omega) (by omega) (by simp [hsz]) (fun j hj => ?_) (fun j hj hj' => ?_) ht)
        · by_cases e : i = j
          · subst e
            have : i < L.size := by omega
            simp [this]
          · rw [getD_set_ne true e]; exact hl j (by omega)
        · rw [getD_set_ne true (by omega)]; exact hu j (by omega) hj'

theorem unlisted_ge {m : Nat} {L : Array Bool} (hu : ∀ j, m ≤ j → j < L.size → L.getD j true = false) : L.size - m ≤ unlisted L := by
  unfold unlisted
  rw [← List.take_append_drop m L.toList, List.countP_append]
  have h1 : (L.toList.drop m).countP (fun b => !b) = (L.toList.drop m).length := by
    rw [List.countP_eq_length]
    intro b hb
    obtain ⟨k, hk⟩ := List.mem_iff_getElem?.mp hb
    rw [List.getElem?_drop] at hk
    have hlt : m + k < L.size := by
      have := (List.getElem?_eq_some_iff.mp hk).1
      simpa using this
    have := hu (m + k) (by omega) hlt
    simp [hlt] at this hk
    simp [← hk, this]
  rw [h1]
  simp

/-- A region whose last operations wait for all that stand ahead: the first are walked once each, in whatever order; then the last, one after another. -/
theorem wp_region_tail {id : Nat} (m : Nat) (hms : m ≤ ops.size) (hT : tailB ops m = true) (hm : P.follows .mixedOrders = true) (hback : backB2 ops = true) (hown : ownSlotsB ops = true)
    (hR0 : R w0.drew w0.drew) (hRt : ∀ a b c, R a b → R b c → R a c)
    (stab : ∀ j v w w', R w w' → Φ j v w → Φ j v w')
    (step : ∀ (i : Nat) (o : Oper), ops[i]? = some o → i < m → ∀ (a : Act) (w : World), Frames ops a0 a → R w0.drew w →
      (∀ e ∈ o.after, Region.binds .any e = true → ∀ oj, ops[e.on]? = some oj → Φ e.on (slotOf oj a) w) →
      ∀ K' : Act → World → Prop, (∀ v w', R w w' → Φ i (slotOf o (a.put o.dst v)) w' → K' (a.put o.dst v) w') →
        if Region.wanted o (yielded ops a.tmps) = true then Oper.wp P o a w K' Q else K' (a.put o.dst undef) w)
    (fin : ∀ (a : Act) (w : World), Frames ops a0 a → R w0.drew w → (∀ (j : Nat) (oj : Oper), j < m → ops[j]? = some oj → Φ j (slotOf oj a) w) → tailWp P ops Q (List.range' m (ops.size - m)) a w) :
    (Code.region id ops true).wp P Q a0 w0 := by
  refine wp_region_any hm ?_
  have main : ∀ (fuel : Nat) (L : Array Bool) (a : Act) (w : World), L.size = ops.size → unlisted L ≤ fuel → (∀ j, m ≤ j → j < ops.size → L.getD j true = false) → Frames ops a0 a → R w0.drew w →
      (∀ (j : Nat) (oj : Oper), ops[j]? = some oj → L.getD j true = true → Φ j (slotOf oj a) w) → wpAny P .any ops Q fuel L a w := by
    intro fuel
    induction fuel with
    | zero =>
      intro L a w hsz hu htl hf hr hp
      have h1 := unlisted_ge (L := L) (m := m) fun j h1 h2 => htl j h1 (by omega)
      have hz := unlisted_zero (L := L) (by omega)
      refine wp_tail_seq hback hT (ops.size - m) 0 m L a w (by omega) (by omega) (Nat.le_refl _) hsz (fun j _ => hz j) htl (fin a w hf hr fun j oj _ ho => hp j oj ho (hz j))
    | succ fuel ih =>
      intro L a w hsz hu htl hf hr hp
      by_cases hall : ∀ j, j < m → L.getD j true = true
      · have h1 := unlisted_ge (L := L) (m := m) fun j h1 h2 => htl j h1 (by omega)
        exact wp_tail_seq hback hT (ops.size - m) (fuel + 1) m L a w (by omega) (by omega) (Nat.le_refl _) hsz hall htl (fin a w hf hr fun j oj hj ho => hp j oj ho (hall j hj))
      · obtain ⟨q, hq⟩ := Classical.not_forall.mp hall
        have hqm : q < m := Classical.byContradiction fun h => hq fun h' => absurd h' h
        have hqL : L.getD q true = false := by
          cases h : L.getD q true with
          | false => rfl
          | true => exact absurd (fun _ => h) hq
        refine ⟨fun hn => ?_, fun i hi => ?_⟩
        · rw [all_listed2 hback hsz hn (q + 1) q (by omega)] at hqL; cases hqL
        obtain ⟨hL, o, ho, hrd⟩ := mem_ready.1 hi
        have hil : i < ops.size := (Array.getElem?_eq_some_iff.mp ho).1
        have hafter : ∀ e ∈ o.after, Region.binds .any e = true → L.getD e.on true = true := fun e he hb => by
          have := hrd e he hb
          rcases Nat.lt_or_ge e.on L.size with h' | h'
          · simp [h'] at this ⊢; exact this
          · simp [Array.getElem?_eq_none h']
        have him : i < m := by
          rcases Nat.lt_or_ge i m with h' | h'
          · exact h'
          · obtain ⟨e, he, hb, rfl⟩ := last_of (tail_of hT h' hil) ho (show q < i by omega)
            rw [hafter e he hb] at hqL; cases hqL
        refine wpOp_step ho fun K' hK' => step i o ho him a w hf hr (fun e he hb oj hoj => hp _ oj hoj (hafter e he hb)) K' fun v w' hr' hphi => hK' _ _ (ih _ _ _ (by simp [hsz]) (by have := unlisted_set hL; omega) (fun j h1 h2 => ?_) (hf.put ho v) (hRt _ _ _ hr hr') ?_)
        · rw [getD_set_ne true (by omega)]; exact htl j h1 h2
        · intro j oj hj hl
          by_cases e : i = j
          · subst e
            rw [ho] at hj; cases hj
            exact hphi
          · rw [slotOf_put hown ho hj e]
            rw [getD_set_ne true e] at hl
            exact stab j _ w w' hr' (hp j oj hj hl)
  exact main ops.size _ a0 _ (by simp) (by simp [unlisted, List.countP_replicate]) (fun j _ h => by simp [h]) ⟨rfl, rfl, fun _ _ => rfl⟩ hR0 (by
    intro j oj hj hl
    have hjl : j < ops.size := (Array.getElem?_eq_some_iff.mp hj).1
    simp [hjl] at hl)
end
end Go.Proofs.YtkeockippmmneaaGreat
