import Derived.Test.YtaoiookfmgpmkaaGreatDoorQM1
import Derived.RegionTactic
import Derived.Maps.AppendAt
import Derived.Deep.AppendLies
import Derived.Deep.Upon
import Derived.Deep.RegionLawGrows
import Derived.Lib.SmallJoins

/-
 A region that draws its order, walked once for each operation and not once for each order: what each operation leaves in its slot is said by a predicate that later steps do not spoil.
-/
namespace Go.Proofs.YtaoiookfmgpmkaaGreatDoor

theorem si {α : Type} {a b : α} (h : some a = some b) : a = b := Option.some.inj h
theorem am {α : Type} {xs : Array α} {i : Nat} {x : α} (h : xs[i]? = some x) : x ∈ xs := Array.mem_of_getElem? h
open Go.RowKit

def slotOf (o : Oper) (a : Act) : Value := match o.dst with | some d => a.tmps.getD d undef | none => undef

def backB (ops : Array Oper) : Bool := (List.range ops.size).all fun i => ((ops[i]?).map fun o => o.after.all fun e => decide (e.on < i)).getD true

def ownSlotsB (ops : Array Oper) : Bool :=
 (List.range ops.size).all fun i => (List.range ops.size).all fun j => i == j || (match (ops[i]?).bind (·.dst), (ops[j]?).bind (·.dst) with | some x, some y => x != y | _, _ => true)

theorem ownSlots {ops : Array Oper} (h : ownSlotsB ops = true) {i j : Nat} {oi oj : Oper} (hi : ops[i]? = some oi) (hj : ops[j]? = some oj) (hne : i ≠ j) {d : Tmp} (hd : oi.dst = some d) : oj.dst ≠ some d := by
 intro hd'
 have li : i < ops.size := (Array.getElem?_eq_some_iff.mp hi).1
 have lj : j < ops.size := (Array.getElem?_eq_some_iff.mp hj).1
 have h1 := List.all_eq_true.mp (List.all_eq_true.mp h i (List.mem_range.mpr li)) j (List.mem_range.mpr lj)
 simp [hi, hj, hd, hd', hne] at h1

theorem back_of {ops : Array Oper} (h : backB ops = true) {i : Nat} {o : Oper} (hi : ops[i]? = some o) {e : Edge} (he : e ∈ o.after) : e.on < i := by
 have li : i < ops.size := (Array.getElem?_eq_some_iff.mp hi).1
 have h1 := List.all_eq_true.mp h i (List.mem_range.mpr li)
 simp only [hi, Option.map_some, Option.getD_some] at h1
 have := Array.all_eq_true'.mp h1 e he
 simpa using this

structure Frames (ops : Array Oper) (a0 a : Act) : Prop where
 size : a.tmps.size = a0.tmps.size
 defers : a.defers = a0.defers
 other : ∀ t, (∀ (j : Nat) (o : Oper), ops[j]? = some o → o.dst ≠ some t) → a.tmps.getD t undef = a0.tmps.getD t undef

def noSlotB (ops : Array Oper) (t : Tmp) : Bool := ops.toList.all fun o => match o.dst with | some d => d != t | none => true

theorem Frames.at_ {ops : Array Oper} {a0 a : Act} (h : Frames ops a0 a) (t : Tmp) (hn : noSlotB ops t = true) : a.tmps.getD t undef = a0.tmps.getD t undef :=
 h.other t fun j o hj hd => by
  have hm : o ∈ ops.toList := by rw [Array.mem_toList_iff]; exact Array.mem_of_getElem? hj
  have := List.all_eq_true.mp hn o hm
  simp [hd] at this

theorem getD_put_ne (a : Act) (d t : Tmp) (v : Value) (h : d ≠ t) : (a.put (some d) v).tmps.getD t undef = a.tmps.getD t undef := by
 show (a.tmps.setIfInBounds d v).getD t undef = _
 simp [h]

theorem Frames.put {ops : Array Oper} {a0 a : Act} (h : Frames ops a0 a) {i : Nat} {o : Oper} (hi : ops[i]? = some o) (v : Value) : Frames ops a0 (a.put o.dst v) := by
 cases hd : o.dst with
 | none => exact h
 | some d =>
  refine ⟨?_, h.defers, fun t ht => ?_⟩
  ·show (a.tmps.setIfInBounds d v).size = _; simp [h.size]
  ·rw [getD_put_ne _ _ _ _ (fun e => ht i o hi (by rw [hd, e]))]; exact h.other t ht

theorem slotOf_put {ops : Array Oper} (hown : ownSlotsB ops = true) {a : Act} {i j : Nat} {oi oj : Oper} (hi : ops[i]? = some oi) (hj : ops[j]? = some oj) (hne : i ≠ j) (v : Value) : slotOf oj (a.put oi.dst v) = slotOf oj a := by
 cases hd : oi.dst with
 | none => rfl
 | some d =>
  have h1 := ownSlots hown hi hj hne hd
  unfold slotOf
  cases hd' : oj.dst with
  | none => rfl
  | some d' => exact getD_put_ne _ _ _ _ (fun e => h1 (by rw [hd', e]))

theorem count_set : ∀ (l : List Bool) (i : Nat), l[i]? = some false → (l.set i true).countP (fun b => !b) + 1 = l.countP (fun b => !b)
 | [], i, h => by simp at h
 | b :: l, 0, h => by simp at h; subst h; simp
 | b :: l, i + 1, h => by
  have := count_set l i (by simpa using h)
  simp only [List.set_cons_succ, List.countP_cons]
  omega

def unlisted (L : Array Bool) : Nat := L.toList.countP fun b => !b

theorem unlisted_set {L : Array Bool} {i : Nat} (h : L.getD i true = false) : unlisted (L.setIfInBounds i true) + 1 = unlisted L := by
 have hi : i < L.size := by
  rcases Nat.lt_or_ge i L.size with h' | h'
  ·exact h'
  ·simp [Array.getElem?_eq_none h'] at h
 unfold unlisted
 rw [Array.toList_setIfInBounds]
 exact count_set _ _ (by simp [hi] at h ⊢; exact h)

theorem unlisted_zero {L : Array Bool} (h : unlisted L = 0) (i : Nat) : L.getD i true = true := by
 unfold unlisted at h
 rw [List.countP_eq_zero] at h
 rcases Nat.lt_or_ge i L.size with h' | h'
 ·have := h L[i] (by simp)
  simp [h'] at this ⊢
  exact this
 ·simp [Array.getElem?_eq_none h']

section
variable {P : Program} {ops : Array Oper} {Q : Exit → Act → World → Prop}

theorem all_listed (hback : backB ops = true) {L : Array Bool} (hsz : L.size = ops.size) (h : Region.ready .any ops L = []) : ∀ n i, i < n → L.getD i true = true := by
 intro n
 induction n with
 | zero => intro i hi; omega
 | succ n ih =>
  intro i hi
  by_cases hlt : i < n
  ·exact ih i hlt
  obtain rfl : i = n := by omega
  rcases Nat.lt_or_ge i ops.size with h' | h'
  ·cases hL : L.getD i true with
   | true => rfl
   | false =>
    have hmem : i ∈ Region.ready .any ops L := by
     unfold Region.ready
     rw [List.mem_filter]
     refine ⟨List.mem_range.mpr h', ?_⟩
     obtain ⟨o, ho⟩ : ∃ o, ops[i]? = some o := ⟨ops[i], Array.getElem?_eq_getElem h'⟩
     simp only [hL, ho, Option.map_some, Option.getD_some, Bool.not_false, Bool.true_and]
     rw [Array.all_eq_true']
     intro e he
     have hlt' := back_of hback ho he
     have := ih e.on hlt'
     have hsz' : e.on < L.size := by omega
     simp [hsz'] at this ⊢
     exact .inr this
    rw [h] at hmem
    cases hmem
  ·simp [Array.getElem?_eq_none (show L.size ≤ i by omega)]

variable {a0 : Act} {w0 : World} {R : World → World → Prop} {Φ : Nat → Value → World → Prop} {J : Array Bool → Act → World → Prop}

theorem wp_region_dagJ {id : Nat} (hm : P.follows .mixedOrders = true) (hback : backB ops = true) (hown : ownSlotsB ops = true)
  (hR0 : R w0.drew w0.drew) (hRt : ∀ a b c, R a b → R b c → R a c)
  (stab : ∀ j v w w', R w w' → Φ j v w → Φ j v w')
  (hJ0 : J (Array.replicate ops.size false) a0 w0.drew)
  (step : ∀ (i : Nat) (o : Oper), ops[i]? = some o → ∀ (L : Array Bool) (a : Act) (w : World), Frames ops a0 a → R w0.drew w → L.size = ops.size → L.getD i true = false →
   (∀ (j : Nat) (oj : Oper), ops[j]? = some oj → L.getD j true = true → Φ j (slotOf oj a) w) →
   (∀ e ∈ o.after, Region.binds .any e = true → L.getD e.on true = true) → J L a w →
   ∀ K' : Act → World → Prop, (∀ v w', R w w' → Φ i (slotOf o (a.put o.dst v)) w' → J (L.setIfInBounds i true) (a.put o.dst v) w' → K' (a.put o.dst v) w') →
    if Region.wanted o (yielded ops a.tmps) = true then Oper.wp P o a w K' Q else K' (a.put o.dst undef) w)
  (fin : ∀ (L : Array Bool) (a : Act) (w : World), Frames ops a0 a → R w0.drew w → (∀ (j : Nat) (oj : Oper), ops[j]? = some oj → L.getD j true = true ∧ Φ j (slotOf oj a) w) → J L a w → Q .normal a w) :
  (Code.region id ops true).wp P Q a0 w0 := by
 refine wp_region_any hm ?_
 have main : ∀ (fuel : Nat) (L : Array Bool) (a : Act) (w : World), L.size = ops.size → unlisted L ≤ fuel → Frames ops a0 a → R w0.drew w →
   (∀ (j : Nat) (oj : Oper), ops[j]? = some oj → L.getD j true = true → Φ j (slotOf oj a) w) → J L a w → wpAny P .any ops Q fuel L a w := by
  intro fuel
  induction fuel with
  | zero =>
   intro L a w hsz hu hf hr hp hj
   have hz := unlisted_zero (L := L) (by omega)
   refine ⟨?_, fin L a w hf hr (fun j oj hj => ⟨hz j, hp j oj hj (hz j)⟩) hj⟩
   rw [List.eq_nil_iff_forall_not_mem]
   intro i hi
   have := (mem_ready.1 hi).1
   rw [hz i] at this; cases this
  | succ fuel ih =>
   intro L a w hsz hu hf hr hp hj
   refine ⟨fun hn => fin L a w hf hr (fun j oj hj => ⟨all_listed hback hsz hn (j + 1) j (by omega), hp j oj hj (all_listed hback hsz hn (j + 1) j (by omega))⟩) hj, fun i hi => ?_⟩
   obtain ⟨hL, o, ho, hall⟩ := mem_ready.1 hi
   refine wpOp_step ho fun K' hK' => step i o ho L a w hf hr hsz hL hp (fun e he hb => ?_) hj K' fun v w' hr' hphi hj' => hK' _ _ (ih _ _ _ (by simp [hsz]) (by have := unlisted_set hL; omega) (hf.put ho v) (hRt _ _ _ hr hr') ?_ hj')
   ·have := hall e he hb
    rcases Nat.lt_or_ge e.on L.size with h' | h'
    ·simp [h'] at this ⊢; exact this
    ·simp [Array.getElem?_eq_none h']
   ·intro j oj hj hl
    by_cases e : i = j
    ·subst e
     rw [ho] at hj; cases hj
     exact hphi
    ·rw [slotOf_put hown ho hj e]
     rw [getD_set_ne true e] at hl
     exact stab j _ w w' hr' (hp j oj hj hl)
 exact main ops.size _ a0 _ (by simp) (by simp [unlisted, List.countP_replicate]) ⟨rfl, rfl, fun _ _ => rfl⟩ hR0 (by
  intro j oj hj hl
  have hjl : j < ops.size := (Array.getElem?_eq_some_iff.mp hj).1
  simp [hjl] at hl) hJ0

theorem wp_region_dag {id : Nat} (hm : P.follows .mixedOrders = true) (hback : backB ops = true) (hown : ownSlotsB ops = true)
  (hR0 : R w0.drew w0.drew) (hRt : ∀ a b c, R a b → R b c → R a c)
  (stab : ∀ j v w w', R w w' → Φ j v w → Φ j v w')
  (step : ∀ (i : Nat) (o : Oper), ops[i]? = some o → ∀ (a : Act) (w : World), Frames ops a0 a → R w0.drew w →
   (∀ e ∈ o.after, Region.binds .any e = true → ∀ oj, ops[e.on]? = some oj → Φ e.on (slotOf oj a) w) →
   ∀ K' : Act → World → Prop, (∀ v w', R w w' → Φ i (slotOf o (a.put o.dst v)) w' → K' (a.put o.dst v) w') →
    if Region.wanted o (yielded ops a.tmps) = true then Oper.wp P o a w K' Q else K' (a.put o.dst undef) w)
  (fin : ∀ (a : Act) (w : World), Frames ops a0 a → R w0.drew w → (∀ (j : Nat) (oj : Oper), ops[j]? = some oj → Φ j (slotOf oj a) w) → Q .normal a w) :
  (Code.region id ops true).wp P Q a0 w0 :=
 wp_region_dagJ (J := fun _ _ _ => True) hm hback hown hR0 hRt stab trivial
  (fun i o ho _ a w hf hr _ _ hp he _ K' hK' => step i o ho a w hf hr (fun e h1 h2 oj hoj => hp _ oj hoj (he e h1 h2)) K' fun v w' h1 h2 => hK' v w' h1 h2 trivial)
  (fun _ a w hf hr hp _ => fin a w hf hr fun j oj hj => (hp j oj hj).2)
end

theorem act_lit (a : Act) (n : Nat) (h : a.tmps.size = n) : ∃ f : Nat → Value, a = ⟨((List.range n).map f).toArray, a.defers⟩ ∧ ∀ i, f i = a.tmps.getD i undef := by
 refine ⟨fun i => a.tmps.getD i undef, ?_, fun _ => rfl⟩
 obtain ⟨tm, df⟩ := a
 simp only at h ⊢
 congr 1
 apply Array.ext
 ·simp [h]
 ·intro i h1 h2
  simp [h1]

section
variable {P : Program} {ops : Array Oper} {Q : Exit → Act → World → Prop} {a0 : Act} {w0 : World} {R : World → World → Prop} {Φ : Nat → Value → World → Prop} {J : Array Bool → Act → World → Prop}

def lastB (ops : Array Oper) (n : Nat) : Bool := (List.range n).all fun j => ((ops[n]?).map fun o => o.after.any fun e => Region.binds .any e && e.on == j).getD false

theorem last_of {n : Nat} (h : lastB ops n = true) {o : Oper} (ho : ops[n]? = some o) {j : Nat} (hj : j < n) : ∃ e ∈ o.after, Region.binds .any e = true ∧ e.on = j := by
 have h1 := List.all_eq_true.mp h j (List.mem_range.mpr hj)
 simp only [ho, Option.map_some, Option.getD_some] at h1
 obtain ⟨e, he, h2⟩ := Array.any_eq_true'.mp h1
 simp at h2
 exact ⟨e, he, h2.1, h2.2⟩

theorem wp_region_last {id : Nat} (n : Nat) (on : Oper) (hn : ops.size = n + 1) (hon : ops[n]? = some on) (hlast : lastB ops n = true)
  (hm : P.follows .mixedOrders = true) (hback : backB ops = true) (hown : ownSlotsB ops = true)
  (hR0 : R w0.drew w0.drew) (hRt : ∀ a b c, R a b → R b c → R a c)
  (stab : ∀ j v w w', R w w' → Φ j v w → Φ j v w')
  (hJ0 : J (Array.replicate ops.size false) a0 w0.drew)
  (step : ∀ (i : Nat) (o : Oper), ops[i]? = some o → i < n → ∀ (L : Array Bool) (a : Act) (w : World), Frames ops a0 a → R w0.drew w → L.size = ops.size → L.getD i true = false →
   (∀ (j : Nat) (oj : Oper), ops[j]? = some oj → L.getD j true = true → Φ j (slotOf oj a) w) →
   (∀ e ∈ o.after, Region.binds .any e = true → L.getD e.on true = true) → J L a w →
   ∀ K' : Act → World → Prop, (∀ v w', R w w' → Φ i (slotOf o (a.put o.dst v)) w' → J (L.setIfInBounds i true) (a.put o.dst v) w' → K' (a.put o.dst v) w') →
    if Region.wanted o (yielded ops a.tmps) = true then Oper.wp P o a w K' Q else K' (a.put o.dst undef) w)
  (fin : ∀ (L : Array Bool) (a : Act) (w : World), Frames ops a0 a → R w0.drew w → (∀ (j : Nat) (oj : Oper), j < n → ops[j]? = some oj → L.getD j true = true ∧ Φ j (slotOf oj a) w) → J L a w →
   ∀ K' : Act → World → Prop, (∀ a' w', Q .normal a' w' → K' a' w') → if Region.wanted on (yielded ops a.tmps) = true then Oper.wp P on a w K' Q else K' (a.put on.dst undef) w) :
  (Code.region id ops true).wp P Q a0 w0 := by
 refine wp_region_any hm ?_
 have main : ∀ (fuel : Nat) (L : Array Bool) (a : Act) (w : World), L.size = ops.size → unlisted L ≤ fuel → L.getD n true = false → Frames ops a0 a → R w0.drew w →
   (∀ (j : Nat) (oj : Oper), ops[j]? = some oj → L.getD j true = true → Φ j (slotOf oj a) w) → J L a w → wpAny P .any ops Q fuel L a w := by
  intro fuel
  induction fuel with
  | zero =>
   intro L a w hsz hu hnl hf hr hp hj
   have hz := unlisted_zero (L := L) (by omega) n
   rw [hnl] at hz; cases hz
  | succ fuel ih =>
   intro L a w hsz hu hnl hf hr hp hj
   refine ⟨fun hne => ?_, fun i hi => ?_⟩
   ·have := all_listed hback hsz hne (n + 1) n (by omega)
    rw [hnl] at this; cases this
   obtain ⟨hL, o, ho, hall⟩ := mem_ready.1 hi
   have hafter : ∀ e ∈ o.after, Region.binds .any e = true → L.getD e.on true = true := fun e he hb => by
    have := hall e he hb
    rcases Nat.lt_or_ge e.on L.size with h' | h'
    ·simp [h'] at this ⊢; exact this
    ·simp [Array.getElem?_eq_none h']
   have hilt : i < n + 1 := by rw [← hn]; exact (Array.getElem?_eq_some_iff.mp ho).1
   by_cases hin : i = n
   ·subst hin
    rw [hon] at ho; cases ho
    refine wpOp_step hon fun K' hK' => fin L a w hf hr (fun j oj hjn hj => ?_) hj K' fun a' w' hq => hK' _ _ ?_
    ·obtain ⟨e, he, hb, rfl⟩ := last_of hlast hon hjn
     exact ⟨hafter e he hb, hp _ oj hj (hafter e he hb)⟩
    ·have hall' : Region.ready .any ops (L.setIfInBounds i true) = [] := by
      rw [List.eq_nil_iff_forall_not_mem]
      intro k hk
      obtain ⟨hk1, ok, hok, _⟩ := mem_ready.1 hk
      have hkl : k < i + 1 := by rw [← hn]; exact (Array.getElem?_eq_some_iff.mp hok).1
      by_cases e : i = k
      ·subst e
       have hil : i < L.size := by omega
       simp [hil] at hk1
      ·rw [getD_set_ne true e] at hk1
       obtain ⟨e', he, hb, rfl⟩ := last_of hlast hon (show k < i by omega)
       rw [hafter e' he hb] at hk1; cases hk1
     cases fuel with
     | zero => exact ⟨hall', hq⟩
     | succ fuel => exact ⟨fun _ => hq, fun k hk => by rw [hall'] at hk; cases hk⟩
   ·refine wpOp_step ho fun K' hK' => step i o ho (by omega) L a w hf hr hsz hL hp hafter hj K' fun v w' hr' hphi hj' => hK' _ _ (ih _ _ _ (by simp [hsz]) (by have := unlisted_set hL; omega) (by rw [getD_set_ne true hin]; exact hnl) (hf.put ho v) (hRt _ _ _ hr hr') ?_ hj')
    intro j oj hj hl
    by_cases e : i = j
    ·subst e
     rw [ho] at hj; cases hj
     exact hphi
    ·rw [slotOf_put hown ho hj e]
     rw [getD_set_ne true e] at hl
     exact stab j _ w w' hr' (hp j oj hj hl)
 exact main ops.size _ a0 _ (by simp) (by simp [unlisted, List.countP_replicate]) (by simp [hn]) ⟨rfl, rfl, fun _ _ => rfl⟩ hR0 (by
  intro j oj hj hl
  have hjl : j < ops.size := (Array.getElem?_eq_some_iff.mp hj).1
  simp [hjl] at hl) hJ0
end

abbrev Grow (u u' : World) : Prop := Below u.heap.size u u'

theorem grow_trans (a b c : World) (h : Grow a b) (k : Grow b c) : Grow a c := below_two h k

def Zero (n : Nat) (u : World) (B : Nat) : Prop := ∀ k, k < n → (u.cell? ⟨B, k, none⟩).isSome = true ∧ u.frozen? ⟨B, k, none⟩ = false

theorem Zero.grow {n : Nat} {u u' : World} {B : Nat} (h : Zero n u B) (hg : Grow u u') (hB : B < u.heap.size) : Zero n u' B := fun k hk => by
 rw [hg.cell (p := ⟨B, k, none⟩) hB, hg.frozen (p := ⟨B, k, none⟩) hB]; exact h k hk

structure VarJ (Own : World → Nat → Nat → Value → Prop) (n0 nc iA iC : Nat) (p r : Tmp) (L : Array Bool) (a : Act) (u : World) : Prop where
 al : L.getD iA true = true → ∃ B, a.tmps.getD p undef = .pointer (some ⟨B, 0, none⟩) ∧ n0 ≤ B ∧ B < u.heap.size ∧ Zero nc u B
 cl : L.getD iC true = true → ∃ lo hi, Own u lo hi (a.tmps.getD r undef) ∧ n0 ≤ lo ∧ hi ≤ u.heap.size ∧
  (L.getD iA true = true → ∀ B, a.tmps.getD p undef = .pointer (some ⟨B, 0, none⟩) → B < lo ∨ hi ≤ B)

section
variable {P : Program} {ops : Array Oper} {Q : Exit → Act → World → Prop} {a0 : Act} {w0 : World} {Φ : Nat → Value → World → Prop} {Own : World → Nat → Nat → Value → Prop}

theorem getD_set_self' {L : Array Bool} {i : Nat} (h : i < L.size) : (L.setIfInBounds i true).getD i true = true := by simp [h]

theorem getD_put_self (a : Act) (d : Tmp) (v : Value) (h : d < a.tmps.size) : (a.put (some d) v).tmps.getD d undef = v := by
 show (a.tmps.setIfInBounds d v).getD d undef = v
 simp [h]

end
end Go.Proofs.YtaoiookfmgpmkaaGreatDoor

/-
 Numbers that are held: a row of one's own that is cut at its end and appended to, in place where there is room.
-/
namespace Go.Proofs.YtaoiookfmgpmkaaGreatDoor
open Go.ChangeShapes Go.WideShapes Go.ChangeAt Go.RowKit
set_option linter.unusedVariables false

def rowZ (xs : List Int) : List Value := xs.map (Value.int .i64)

theorem rowZ_length (xs : List Int) : (rowZ xs).length = xs.length := by simp [rowZ]

def RowZ (w : World) (base : Nat) (v : Value) (xs : List Int) : Prop := w.ownsRow base 3 1 v xs.length (rowZ xs)

theorem RowZ.lt {w : World} {base : Nat} {v : Value} {xs : List Int} (h : RowZ w base v xs) : ∀ k, v.ownBlock = some k → base ≤ k ∧ k < w.heap.size := World.ownsRow.lt h

theorem RowZ.shape {w : World} {base : Nat} {v : Value} {xs : List Int} (h : RowZ w base v xs) : ∃ ad cap, v = .slice ad xs.length cap ∧ xs.length ≤ cap ∧ cap ≤ maxLen := by
 rcases h.2 with ⟨rfl, hn⟩ | ⟨g, cap, cur, rfl, hb, hh, hc, hm, _⟩
 ·exact ⟨none, 0, by rw [hn], by omega, Nat.zero_le _⟩
 ·exact ⟨_, cap, rfl, hc, hm⟩

theorem RowZ.block {w : World} {base : Nat} {v : Value} {xs : List Int} (h : RowZ w base v xs) (hx : 0 < xs.length) : ∃ g cap, v = .slice (some ⟨g, 0, none⟩) xs.length cap ∧ xs.length ≤ cap ∧ cap ≤ maxLen ∧ base ≤ g ∧ g < w.heap.size ∧ ∀ (i : Nat) (x : Int), xs[i]? = some x → w.cell? ⟨g, i, none⟩ = some (.int .i64 x) := by
 have h0 := h
 rcases h.2 with ⟨rfl, hn⟩ | ⟨g, cap, cur, rfl, hb, hh, hc, hm, _⟩
 ·omega
 ·refine ⟨g, cap, rfl, hc, hm, hb, (Array.getElem?_eq_some_iff.mp hh).1, fun i x hi => ?_⟩
  have hil : i < xs.length := (List.getElem?_eq_some_iff.mp hi).1
  rw [World.ownsRow.cellAt h0 _ (by omega)]
  unfold rowZ
  rw [List.getElem?_map, hi]; rfl

theorem RowZ.at_ {w w' : World} {base : Nat} {v : Value} {xs : List Int} (h : RowZ w base v xs) (hk : ∀ g, v.ownBlock = some g → w'.heap[g]? = w.heap[g]?) : RowZ w' base v xs := by
 refine ⟨h.1, ?_⟩
 rcases h.2 with ⟨rfl, hn⟩ | ⟨g, cap, cur, rfl, hb, hh, r⟩
 ·exact .inl ⟨rfl, hn⟩
 ·exact .inr ⟨g, cap, cur, rfl, hb, by rw [hk g rfl]; exact hh, r⟩

theorem RowZ.below {w w' : World} {base n : Nat} {v : Value} {xs : List Int} (h : RowZ w base v xs) (hb : Below n w w') (hn : w.heap.size ≤ n) : RowZ w' base v xs :=
 h.at_ fun g hg => hb.block g (by have := (h.lt g hg).2; omega)

theorem RowZ.mono {w : World} {base base' : Nat} {v : Value} {xs : List Int} (h : RowZ w base v xs) (hb : base' ≤ base) : RowZ w base' v xs := by
 refine ⟨h.1, ?_⟩
 rcases h.2 with ⟨rfl, hn⟩ | ⟨g, cap, cur, rfl, hb', r⟩
 ·exact .inl ⟨rfl, hn⟩
 ·exact .inr ⟨g, cap, cur, rfl, by omega, r⟩

theorem RowZ.cut {w : World} {base : Nat} {ad : Option Go.Addr} {cap n : Nat} {xs : List Int} (h : RowZ w base (.slice ad n cap) xs) (k : Nat) (hk : k ≤ xs.length) : RowZ w base (.slice ad k cap) (xs.take k) := by
 have hl : (xs.take k).length = k := by rw [List.length_take]; omega
 refine ⟨by rw [rowZ_length]; omega, ?_⟩
 rw [hl]
 rcases h.2 with ⟨hv, hn⟩ | ⟨g, cap', cur, hv, hb, hh, hc, hm, hs, ht⟩
 ·simp only [Value.slice.injEq] at hv
  obtain ⟨rfl, rfl, rfl⟩ := hv
  exact .inl ⟨by congr 1; omega, by omega⟩
 ·simp only [Value.slice.injEq] at hv
  obtain ⟨rfl, rfl, rfl⟩ := hv
  refine .inr ⟨g, cap, cur, rfl, hb, hh, by omega, hm, hs, ?_⟩
  unfold rowZ at *
  rw [Nat.mul_one] at ht ⊢
  rw [List.map_take, ← ht, List.take_take, Nat.min_eq_left hk]

theorem rowZ_none (w : World) (base : Nat) (hb : base ≤ w.heap.size) : RowZ (w.alloc (.cells #[] 3)) base (.slice (some ⟨w.heap.size, 0, none⟩) 0 0) [] :=
 ⟨rfl, .inr ⟨w.heap.size, 0, _, rfl, hb, heap_alloc_new w _, Nat.le_refl _, Nat.zero_le _, rfl, rfl⟩⟩

structure AppZ (w : World) (base : Nat) (v : Value) (xs : List Int) (v' : Value) (w' : World) : Prop where
 row : RowZ w' base v' xs
 grown : w.grownBy w' v.ownBlock
 at_ : v'.ownBlock = v.ownBlock ∨ v'.ownBlock = some w.heap.size

theorem run_appZ (w : World) (base ty : Nat) (v : Value) (xs : List Int) (b : Nat) (x : Int) (hr : RowZ w base v xs) (hx : w.cell? ⟨b, 0, none⟩ = some (.int .i64 x)) (hb : base ≤ w.heap.size) (hn : xs.length + 1 ≤ 16777216) :
  ∃ v' w', (Builtin.append_ #[49, 49] ty #[v, .slice (some ⟨b, 0, none⟩) 1 1]).run Tryz.prog w = .ok v' w' ∧ AppZ w base v (xs ++ [x]) v' w' := by
 obtain ⟨i0, hi0, hz0, hz1, hz2⟩ := info_parts info_int
 obtain ⟨v', w', hrun, h2, h3, _, h5⟩ := run_append_own_at (P := Tryz.prog) w base 49 ty 3 i0 (.int .i64 0) 1 8 Tryz.underlying49 hi0 hz0 hz1 hz2 rfl (by decide) v xs.length (rowZ xs) hr ⟨b, 0, none⟩ 1 1 [.int .i64 x] rfl (fun j u h => by
   have hj : j = 0 := by have := (List.getElem?_eq_some_iff.mp h).1; simp at this; exact this
   subst hj
   simp at h
   rw [← h]
   exact hx) (fun u h => by simp at h; rw [h]; rfl) (by unfold maxLen; omega) (by omega) hb
 refine ⟨v', w', hrun, ⟨?_, h3, h5⟩⟩
 unfold RowZ rowZ
 rw [List.map_append, List.length_append]
 exact h2

section
variable {ops : Array Oper} {rest : List Oper} {o : Oper} {a : Act} {Q : Exit → Act → World → Prop} {K : Act → World → Prop} {w : World}

theorem step_appZ {E : Prop} (hg : o.guard = none) (s x : Operand) (hop : o.op = .call { callee := .builtin .append, args := #[s, x], argTypes := #[49, 49] })
  (base : Nat) {v : Value} {xs : List Int} {b : Nat} {z : Int} (hs : a.eval s = v) (hx : a.eval x = .slice (some ⟨b, 0, none⟩) 1 1) (hr : RowZ w base v xs) (hc : w.cell? ⟨b, 0, none⟩ = some (.int .i64 z)) (hb : base ≤ w.heap.size) (hl : xs.length + 1 ≤ 16777216)
  (hK : ∀ v' w', AppZ w base v (xs ++ [z]) v' w' → K (a.put o.dst v') w') :
  if Region.wanted o (yielded ops a.tmps) = true then Oper.wp Tryz.prog o a w K Q else E := by
 rw [if_pos (by simp [Region.wanted, hg])]
 obtain ⟨v', w', hrun, h⟩ := run_appZ w base o.type v xs b z hr hc hb hl
 unfold Oper.wp execOp
 simp only [hop, resolve, invoke, builtin, Sem.run_bind, Sem.run_pure, Result.andThen_ok, List.map_toArray, List.map_cons, List.map_nil, hs, hx, hrun]
 exact hK v' w' h
end

section
variable {ops : Array Oper} {rest : List Oper} {o : Oper} {a : Act} {Q : Exit → Act → World → Prop} {w : World}

theorem wpList_appZ (hg : o.guard = none) (s x : Operand) (hop : o.op = .call { callee := .builtin .append, args := #[s, x], argTypes := #[49, 49] })
  (base : Nat) {v : Value} {xs : List Int} {b : Nat} {z : Int} (hs : a.eval s = v) (hx : a.eval x = .slice (some ⟨b, 0, none⟩) 1 1) (hr : RowZ w base v xs) (hc : w.cell? ⟨b, 0, none⟩ = some (.int .i64 z)) (hb : base ≤ w.heap.size) (hl : xs.length + 1 ≤ 16777216)
  (hK : Hid (∀ v' w', AppZ w base v (xs ++ [z]) v' w' → wpList Tryz.prog ops Q rest (a.put o.dst v') w')) : wpList Tryz.prog ops Q (o :: rest) a w :=
 wpList_step fun _ hK' => step_appZ (E := _) hg s x hop base hs hx hr hc hb hl fun v' w' h => hK' _ _ (hK.out v' w' h)
end

theorem AppZ.below {w w' : World} {base n : Nat} {v v' : Value} {xs ys : List Int} (h : AppZ w base v xs v' w') (hr : RowZ w base v ys) (hn : n ≤ base) (hb : base ≤ w.heap.size) : Below n w w' :=
 (Below.refl n w).grown h.grown (by omega) fun k hk => by have := (hr.lt k hk).1; omega
end Go.Proofs.YtaoiookfmgpmkaaGreatDoor

/-
 A piece of a block that may be written (Room), and what calls that write leave of numbers outside of it.
-/
namespace Go.Proofs.YtaoiookfmgpmkaaGreatDoor
open Go.ChangeShapes Go.WideShapes Go.ChangeAt Go.RowKit
set_option linter.unusedVariables false

structure Room (w : World) (g off m : Nat) (wr : World) : Prop where
 out : Out g (g + 1) w wr
 lt : g < wr.heap.size
 some_ : ∀ x, off ≤ x → x < off + m → (wr.cell? ⟨g, x, none⟩).isSome = true
 frozen : ∀ x, wr.frozen? ⟨g, off + x, none⟩ = false

theorem Room.fz {w wr : World} {g off m : Nat} (h : Room w g off m wr) (x : Nat) (hx : off ≤ x) : wr.frozen? ⟨g, x, none⟩ = false := by
 have := h.frozen (x - off)
 rwa [Nat.add_sub_cancel' hx] at this

theorem Room.next {w wr u : World} {g off m x : Nat} {z : Value} (h : Room w g off m wr) (hL : LaidG wr u g x [z]) : Room w g off m u := by
 have hb := hL.below 0 wr (Nat.zero_le _) (Below.refl _ _)
 refine ⟨h.out.trans ⟨hb.os, hb.tape, hb.output, by rw [hL.size]; exact Nat.le_refl _, fun q hq hr => hL.block q (by omega)⟩, by rw [hL.size]; exact h.lt, fun y h1 h2 => ?_, fun y => by rw [hL.frozen]; exact h.frozen y⟩
 by_cases e : y = x
 ·subst e
  have := hL.cv 0 z rfl
  rw [Nat.add_zero] at this
  rw [this]; rfl
 ·rw [hL.cell _ _ (by simp only [List.length_cons, List.length_nil]; omega)]
  exact h.some_ y h1 h2

theorem Out.widen {lo hi lo' hi' : Nat} {w u : World} (h : Out lo hi w u) (h1 : lo' ≤ lo) (h2 : hi ≤ hi') : Out lo' hi' w u :=
 ⟨h.os, h.tape, h.output, h.size, fun k hk ho => h.block k hk (by omega)⟩
theorem OI.out {w w' : World} {lo hi lo' hi' : Nat} {v : Value} {xs : List Int} (h : OI w lo hi v xs) (g : Out lo' hi' w w') (h1 : hi ≤ lo' ∨ hi' ≤ lo) (hs : hi ≤ w.heap.size) : OI w' lo hi v xs :=
 h.kept fun k q1 q2 => g.block k (by omega) (by omega)

end Go.Proofs.YtaoiookfmgpmkaaGreatDoor

/-
 Elements that are marked in place, one number a cell, and read back; lists of bools: eqBoolS, markBoolS, heldBoolS.
-/
namespace Go.Proofs.YtaoiookfmgpmkaaGreatDoor
open Go.ChangeShapes Go.WideShapes Go.ChangeAt Go.RowKit
set_option linter.unusedVariables false
set_option linter.unusedSimpArgs false
set_option maxRecDepth 100000

def bool2 : Elem Bool := ⟨fun x => [.bool x], 1, by decide, fun _ => rfl, fun x v hv => by simp at hv; rw [hv]; rfl⟩

section
variable {α : Type} {E : Elem α}

def marksG (E : Elem α) (f : Int → α) (k : Int) (n : Nat) : List α := (List.range n).map fun i => f (k + ((E.k * i : Nat) : Int))
theorem marksG_length (f : Int → α) (k : Int) (n : Nat) : (marksG E f k n).length = n := by simp [marksG]
theorem marksG_at {f : Int → α} {k : Int} {n i : Nat} (h : i < n) : (marksG E f k n)[i]? = some (f (k + ((E.k * i : Nat) : Int))) := by simp [marksG, h]

structure MarkG (E : Elem α) (f : Int → α) (k : Int) (w : World) (g off n j : Nat) (wr : World) : Prop where
 room : Room w g off (n * E.k) wr
 done : ∀ i, i < j → CV wr g (off + i * E.k) (E.cells (f (k + ((E.k * i : Nat) : Int))))

theorem MarkG.store {f : Int → α} {k : Int} {w wr u : World} {g off n j x : Nat} {z : Value} (h : MarkG E f k w g off n j wr) (hL : LaidG wr u g x [z]) (hx : off + j * E.k ≤ x) : MarkG E f k w g off n j u := by
 refine ⟨h.room.next hL, fun i hi p v hp => ?_⟩
 have hlen : p < E.k := by have := (List.getElem?_eq_some_iff.mp hp).1; rwa [E.len] at this
 have hij : i * E.k + E.k ≤ j * E.k := by rw [← Nat.succ_mul]; exact Nat.mul_le_mul_right _ (by omega)
 rw [hL.cell _ _ (.inr (.inl (by omega)))]
 exact h.done i hi p v hp

theorem MarkG.next {f : Int → α} {k : Int} {w wr : World} {g off n j : Nat} (h : MarkG E f k w g off n j wr) (hc : CV wr g (off + j * E.k) (E.cells (f (k + ((E.k * j : Nat) : Int))))) : MarkG E f k w g off n (j + 1) wr :=
 ⟨h.room, fun i hi => by
  by_cases e : i = j
  ·subst e; exact hc
  ·exact h.done i (by omega)⟩

theorem MarkG.go {f : Int → α} {k : Int} {w wr : World} {lo hi g off cap : Nat} {xs : List α} (h : MarkG E f k w g off xs.length xs.length wr) (h1 : xs.length ≤ cap) (h2 : cap ≤ maxLen) (h3 : lo ≤ g) (h4 : g < hi) :
  GO E wr lo hi (.slice (some ⟨g, off, none⟩) xs.length cap) (marksG E f k xs.length) :=
 .inr ⟨g, off, cap, by rw [marksG_length], by rw [marksG_length]; exact h1, h2, h3, h4, fun i x hx => by
   have hi' : i < xs.length := by have := (List.getElem?_eq_some_iff.mp hx).1; rwa [marksG_length] at this
   rw [marksG_at hi'] at hx
   cases hx
   exact h.done i hi', h.room.frozen⟩

theorem MarkG.out {f : Int → α} {k : Int} {w wr : World} {lo hi g off n j : Nat} (h : MarkG E f k w g off n j wr) (h3 : lo ≤ g) (h4 : g < hi) : Out lo hi w wr := h.room.out.widen h3 (by omega)

theorem GO.out {w w' : World} {lo hi lo' hi' : Nat} {v : Value} {xs : List α} (h : GO E w lo hi v xs) (g : Out lo' hi' w w') (h1 : hi ≤ lo' ∨ hi' ≤ lo) (hs : hi ≤ w.heap.size) : GO E w' lo hi v xs :=
 h.kept fun k q1 q2 => g.block k (by omega) (by omega)
theorem GO.shapeO {w : World} {lo hi : Nat} {v : Value} {xs : List α} (h : GO E w lo hi v xs) : ∃ a cap, v = .slice a xs.length cap := by
 obtain ⟨a, cap, hv, _⟩ := h.gr.shape; exact ⟨a, cap, hv⟩
end

set_option maxHeartbeats 2000000 in
theorem eqBoolS_same (w : World) (lo hi lo' hi' : Nat) (va vb : Value) (ps : List Bool) (ha : GR bool2 w lo hi va ps) (hb' : GR bool2 w lo' hi' vb ps) (hhi : hi ≤ w.heap.size) (hhi' : hi' ≤ w.heap.size) :
  Calls Tryz.prog 117 #[va, vb] w fun e w' => e = .returned (.bool true) ∧ Below w.heap.size w w' := by
 obtain ⟨ad, cap, rfl, h1, h2⟩ := ha.shape
 obtain ⟨ad', cap', rfl, h1', h2'⟩ := hb'.shape
 have HK : Hid (GR bool2 w lo hi (.slice ad ps.length cap) ps ∧ GR bool2 w lo' hi' (.slice ad' ps.length cap') ps) := ⟨ha, hb'⟩
 clear ha hb'
 unfold maxLen at h2 h2'
 have hl2 : ((ps.length : Int) != (ps.length : Int)) = false := by simp
 go_enter Tryz.func117, Tryz.ntmps117
 go_wp2_with fail
 go_loopw [5] (fun i wr => ∃ j : Nat, j ≤ ps.length ∧ i = .int .i64 j ∧ Below w.heap.size w wr) (fun i _ => ps.length - (intOf i).toNat)
 case atStart => exact ⟨0, Nat.zero_le _, rfl, Below.refl _ _⟩
 case round =>
  obtain ⟨j, hj, rfl, hb⟩ := hrel
  have hsz := hb.size
  by_cases hlt : j < ps.length
  ·obtain ⟨x, hx⟩ : ∃ x, ps[j]? = some x := ⟨ps[j], List.getElem?_eq_getElem hlt⟩
   obtain ⟨b, off, capx, hv, hb1, hb2, h5⟩ := HK.out.1.at_ hx
   obtain ⟨b', off', capy, hv', hb1', hb2', h5'⟩ := HK.out.2.at_ hx
   simp only [Value.slice.injEq, true_and] at hv hv'
   obtain ⟨rfl, rfl⟩ := hv
   obtain ⟨rfl, rfl⟩ := hv'
   have c1 : wr.cell? ⟨b, off + j, none⟩ = some (.bool x) := by
    have := (h5.below hb (by omega)) 0 (.bool x) rfl
    rwa [Nat.add_zero, show j * bool2.k = j from Nat.mul_one j] at this
   have c2 : wr.cell? ⟨b', off' + j, none⟩ = some (.bool x) := by
    have := (h5'.below hb (by omega)) 0 (.bool x) rfl
    rwa [Nat.add_zero, show j * bool2.k = j from Nat.mul_one j] at this
   have hxx : (x != x) = false := by simp
   have HB : Hid (Below w.heap.size w wr) := hb
   clear hx h5 h5' hb
   go_wp2_with fail
   go_quiet (fail)
   go_wp2
   go_roundw
   case rel => exact ⟨j + 1, by omega, by go_num, below_drewN HB.out nq⟩
   case measure => simp [intOf]; omega
  ·obtain rfl : j = ps.length := by omega
   go_wp2
   go_ret
   exact ⟨rfl, hb⟩

end Go.Proofs.YtaoiookfmgpmkaaGreatDoor

/-
 What chapter 6's model (package spec) answers: BlockNew, BlockOk; and the law's toBlock and eqBlock.
-/
namespace Go.Proofs.YtaoiookfmgpmkaaGreatDoor
open Go.ChangeShapes Go.WideShapes Go.ChangeAt Go.RowKit
set_option linter.unusedVariables false

theorem below_al {w u : World} (h : Below w.heap.size w u) (o : Obj) : Below w.heap.size w (u.alloc o) := h.alloc h.size o
theorem below_se {w u : World} (h : Below w.heap.size w u) {b o : Nat} (hb : w.heap.size ≤ b) (v : Value) : Below w.heap.size w (u.setCell ⟨b, o, none⟩ v) := h.setCell (p := ⟨b, o, none⟩) hb v
theorem below_dr {w u : World} (h : Below w.heap.size w u) : Below w.heap.size w u.drew := h.drew

structure CellB (w : World) (B : Nat) (b : BlockD) : Prop where
 c0 : w.cell? ⟨B, 0, none⟩ = some (.int .i64 b.kind)
 c1 : w.cell? ⟨B, 1, none⟩ = some (.int .i64 b.n)
 c2 : w.cell? ⟨B, 2, none⟩ = some (.bool b.on)
 c3 : w.cell? ⟨B, 3, none⟩ = some (.bool b.was)
 c4 : w.cell? ⟨B, 4, none⟩ = some (.int .i64 b.t)
 f : ∀ o, w.frozen? ⟨B, o, none⟩ = false

theorem CellB.at_ {w w' : World} {B : Nat} {b : BlockD} (h : CellB w B b) (hk : w'.heap[B]? = w.heap[B]?) : CellB w' B b :=
 ⟨by rw [World.cell?_of_block (w := w) hk]; exact h.c0, by rw [World.cell?_of_block (w := w) hk]; exact h.c1, by rw [World.cell?_of_block (w := w) hk]; exact h.c2, by rw [World.cell?_of_block (w := w) hk]; exact h.c3, by rw [World.cell?_of_block (w := w) hk]; exact h.c4, fun o => by rw [World.frozen?_of_block (w := w) hk]; exact h.f o⟩
theorem CellB.below {w w' : World} {B n : Nat} {b : BlockD} (h : CellB w B b) (hb : Below n w w') (hB : B < n) : CellB w' B b := h.at_ (hb.block B hB)
theorem cellB_new (w : World) (b : BlockD) (t : TypeId) : CellB (w.alloc (.cells #[.int .i64 b.kind, .int .i64 b.n, .bool b.on, .bool b.was, .int .i64 b.t] t)) w.heap.size b :=
 ⟨World.cell?_alloc_new _ _ _ _, World.cell?_alloc_new _ _ _ _, World.cell?_alloc_new _ _ _ _, World.cell?_alloc_new _ _ _ _, World.cell?_alloc_new _ _ _ _, fun o => World.frozen?_alloc_new _ _ _ _⟩
theorem CellB.other {w : World} {B : Nat} {b : BlockD} (h : CellB w B b) {b' o : Nat} (hb : B ≠ b') (v : Value) : CellB (w.setCell ⟨b', o, none⟩ v) B b :=
 h.at_ (Below.heap_setCell _ _ _ _ hb)

theorem cellB_store {w : World} {B : Nat} {b0 : BlockD} (h : CellB w B b0) (b : BlockD) :
  CellB (((((w.setCell ⟨B, 0, none⟩ (.int .i64 b.kind)).setCell ⟨B, 1, none⟩ (.int .i64 b.n)).setCell ⟨B, 2, none⟩ (.bool b.on)).setCell ⟨B, 3, none⟩ (.bool b.was)).setCell ⟨B, 4, none⟩ (.int .i64 b.t)) B b := by
 obtain ⟨c0, c1, c2, c3, c4, f⟩ := h
 refine ⟨?_, ?_, ?_, ?_, ?_, fun o => by simp only [World.frozen?_setCell]; exact f o⟩
 ·rw [cell_set_other _ (.inr (by decide)), cell_set_other _ (.inr (by decide)), cell_set_other _ (.inr (by decide)), cell_set_other _ (.inr (by decide))]
  exact World.cell?_setCell_same' _ _ _ (by rw [c0]; rfl)
 ·rw [cell_set_other _ (.inr (by decide)), cell_set_other _ (.inr (by decide)), cell_set_other _ (.inr (by decide))]
  exact World.cell?_setCell_same' _ _ _ (by rw [cell_set_other _ (.inr (by decide)), c1]; rfl)
 ·rw [cell_set_other _ (.inr (by decide)), cell_set_other _ (.inr (by decide))]
  exact World.cell?_setCell_same' _ _ _ (by rw [cell_set_other _ (.inr (by decide)), cell_set_other _ (.inr (by decide)), c2]; rfl)
 ·rw [cell_set_other _ (.inr (by decide))]
  exact World.cell?_setCell_same' _ _ _ (by rw [cell_set_other _ (.inr (by decide)), cell_set_other _ (.inr (by decide)), cell_set_other _ (.inr (by decide)), c3]; rfl)
 ·exact World.cell?_setCell_same' _ _ _ (by rw [cell_set_other _ (.inr (by decide)), cell_set_other _ (.inr (by decide)), cell_set_other _ (.inr (by decide)), cell_set_other _ (.inr (by decide)), c4]; rfl)

theorem numB_kinds {k : Int} (h : k = 1 ∨ k = 2 ∨ k = 3) (n : Int) : numB k n = (decide (0 ≤ n) && decide (n ≤ 1000)) := by unfold numB mostB; rw [if_pos h]
theorem numB_last {k : Int} (h : k = 4 ∨ k = 5) (n : Int) : numB k n = decide (n = 0) := by
 unfold numB mostB; rw [if_neg (by omega), if_pos h]
 by_cases h : n = 0
 ·subst h; rfl
 ·rw [decide_eq_false h]; simp; omega
theorem numB_none {k : Int} (h : k < 1 ∨ 5 < k) (n : Int) : numB k n = false := by
 unfold numB mostB; rw [if_neg (by omega), if_neg (by omega)]; simp; omega

set_option maxHeartbeats 1000000 in
theorem l6N_any (w : World) (k n : Int) :
  Calls Tryz.prog 211 #[.int .i64 k, .int .i64 n] w fun e w' => e = .returned (.bool (numB k n)) ∧ w' = w := by
 have big : ∀ k : Int, (k = 1 ∨ k = 2 ∨ k = 3) → Calls Tryz.prog 211 #[.int .i64 k, .int .i64 n] w fun e w' => e = .returned (.bool (decide (0 ≤ n) && decide (n ≤ 1000))) ∧ w' = w := by
  rintro k hk
  by_cases h1 : 0 ≤ n
  ·by_cases h2 : n ≤ 1000
   ·rw [decide_eq_true h1, decide_eq_true h2]
    rcases hk with rfl | rfl | rfl
    all_goals
     go_enter Tryz.func211, Tryz.ntmps211
     go_wp2
     go_ret
     exact ⟨rfl, rfl⟩
   ·rw [decide_eq_true h1, decide_eq_false h2]
    rcases hk with rfl | rfl | rfl
    all_goals
     go_enter Tryz.func211, Tryz.ntmps211
     go_wp2
     go_ret
     exact ⟨by first | rfl | exact ret_bool (decide_eq_false (by omega)), rfl⟩
  ·rw [decide_eq_false h1]
   rcases hk with rfl | rfl | rfl
   all_goals
    go_enter Tryz.func211, Tryz.ntmps211
    go_wp2
    go_ret
    exact ⟨rfl, rfl⟩
 rcases mostB_cases k with ⟨hk, _⟩ | ⟨hk, _⟩ | ⟨hk, _⟩
 ·rw [numB_kinds hk]; exact big k hk
 ·rw [numB_last hk]
  clear big
  rcases hk with rfl | rfl
  all_goals
   by_cases h : n = 0
   ·subst h
    go_enter Tryz.func211, Tryz.ntmps211
    go_wp2
    go_ret
    exact ⟨rfl, rfl⟩
   ·rw [decide_eq_false h]
    have h' : (n == 0) = false := by simpa using h
    clear h
    go_enter Tryz.func211, Tryz.ntmps211
    go_wp2
    go_ret
    exact ⟨rfl, rfl⟩
 ·rw [numB_none hk]
  clear big
  have b1 : (k == 1) = false := by simp; omega
  have b2 : (k == 2) = false := by simp; omega
  have b3 : (k == 3) = false := by simp; omega
  have b4 : (k == 4) = false := by simp; omega
  have b5 : (k == 5) = false := by simp; omega
  clear hk
  go_enter Tryz.func211, Tryz.ntmps211
  go_wp2
  go_ret
  exact ⟨rfl, rfl⟩

theorem blockOk_alt (b : BlockD) : blockOk b = (numB b.kind b.n && (decide (0 ≤ b.t) && (decide (b.t ≤ 1000) && (decide (b.t = 0) || (b.kind == 1 || (b.kind == 2 || b.kind == 3)))))) := by
 unfold blockOk
 cases hn : numB b.kind b.n
 ·rfl
 ·rw [Bool.true_and, Bool.true_and]
  rcases mostB_cases b.kind with ⟨hk, _⟩ | ⟨hk, _⟩ | ⟨hk, _⟩
  ·rw [numB_kinds hk]
   have e : (b.kind == 1 || (b.kind == 2 || b.kind == 3)) = true := by simp; omega
   rw [e, Bool.or_true, Bool.and_true]
  ·rw [numB_last hk]
   have e : (b.kind == 1 || (b.kind == 2 || b.kind == 3)) = false := by simp; omega
   rw [e, Bool.or_false]
   by_cases h : b.t = 0
   ·rw [h]; rfl
   ·rw [decide_eq_false h]; simp
  ·rw [numB_none hk] at hn; cases hn

set_option maxHeartbeats 2000000 in
theorem sBlockOk_any (w : World) (b : BlockD) :
  Calls Tryz.prog 170 #[b.val] w fun e w' => e = .returned (.bool (blockOk b)) ∧ Below w.heap.size w w' := by
 have b1 := fun o => below_al (Below.refl w.heap.size w) o
 rw [blockOk_alt]
 obtain ⟨k, n, on, was, t⟩ := b
 have hN := fun u => l6N_any u k n
 unfold BlockD.val
 simp only
 cases hn : numB k n
 ·rw [hn] at hN
  go_enter Tryz.func170, Tryz.ntmps170
  go_wp2_with (go_at_call 211; refine (hN _).mono ?_; rintro e w' ⟨rfl, rfl⟩)
  go_ret
  exact ⟨rfl, b1 _⟩
 rw [hn] at hN
 by_cases h1 : t < 0
 ·rw [decide_eq_false (show ¬ 0 ≤ t by omega)]
  go_enter Tryz.func170, Tryz.ntmps170
  go_wp2_with (go_at_call 211; refine (hN _).mono ?_; rintro e w' ⟨rfl, rfl⟩)
  go_ret
  exact ⟨rfl, b1 _⟩
 rw [decide_eq_true (show 0 ≤ t by omega)]
 by_cases h2 : 1000 < t
 ·rw [decide_eq_false (show ¬ t ≤ 1000 by omega)]
  go_enter Tryz.func170, Tryz.ntmps170
  go_wp2_with (go_at_call 211; refine (hN _).mono ?_; rintro e w' ⟨rfl, rfl⟩)
  go_ret
  exact ⟨rfl, b1 _⟩
 rw [decide_eq_true (show t ≤ 1000 by omega)]
 by_cases h3 : t = 0
 ·subst h3
  go_enter Tryz.func170, Tryz.ntmps170
  go_wp2_with (go_at_call 211; refine (hN _).mono ?_; rintro e w' ⟨rfl, rfl⟩)
  go_ret
  exact ⟨rfl, b1 _⟩
 rw [decide_eq_false h3]
 have h3' : (t == 0) = false := by simpa using h3
 clear h3
 cases e1 : (k == 1)
 ·cases e2 : (k == 2)
  ·cases e3 : (k == 3)
   all_goals
    go_enter Tryz.func170, Tryz.ntmps170
    go_wp2_with (go_at_call 211; refine (hN _).mono ?_; rintro e w' ⟨rfl, rfl⟩)
    go_ret
    exact ⟨rfl, b1 _⟩
  ·go_enter Tryz.func170, Tryz.ntmps170
   go_wp2_with (go_at_call 211; refine (hN _).mono ?_; rintro e w' ⟨rfl, rfl⟩)
   go_ret
   exact ⟨rfl, b1 _⟩
 ·go_enter Tryz.func170, Tryz.ntmps170
  go_wp2_with (go_at_call 211; refine (hN _).mono ?_; rintro e w' ⟨rfl, rfl⟩)
  go_ret
  exact ⟨rfl, b1 _⟩

set_option maxHeartbeats 1000000 in
theorem toBlock_any (w : World) (b : BlockD) :
  Calls Tryz.prog 182 #[b.val] w fun e w' => e = .returned b.val ∧ Below w.heap.size w w' := by
 obtain ⟨k, n, on, was, t⟩ := b
 unfold BlockD.val
 simp only
 go_enter Tryz.func182, Tryz.ntmps182
 go_wp2
 refine bodyPost_ret (v := .agg #[.int .i64 k, .int .i64 n, .bool on, .bool was, .int .i64 t]) ?_ rfl ⟨rfl, ?_⟩
 ·simp [results, Tryz.results182, go_sem]
 ·repeat first | exact Below.refl _ _ | apply below_al | refine below_se ?_ (by simp <;> omega) _

set_option maxHeartbeats 1000000 in
theorem eqBlock_same (w : World) (b : BlockD) :
  Calls Tryz.prog 196 #[b.val, b.val] w fun e w' => e = .returned (.bool true) ∧ Below w.heap.size w w' := by
 obtain ⟨k, n, on, was, t⟩ := b
 unfold BlockD.val
 simp only
 have e1 : (k != k) = false := by simp
 have e2 : (n != n) = false := by simp
 have e3 : (t != t) = false := by simp
 have e4 : (on != on) = false := by simp
 have e5 : (was != was) = false := by simp
 go_enter Tryz.func196, Tryz.ntmps196
 go_wp2
 go_ret
 exact ⟨rfl, by repeat first | exact Below.refl _ _ | apply below_al⟩
end Go.Proofs.YtaoiookfmgpmkaaGreatDoor
