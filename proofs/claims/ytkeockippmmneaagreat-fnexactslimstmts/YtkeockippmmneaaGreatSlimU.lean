/-
  Chapter 10's model: l10Expr, SlimExpr. (Written by our generator gen_slimu.py.)
-/
import Derived.Test.YtkeockippmmneaaGreatSlimT
import Derived.Test.YtkeockippmmneaaGreatCopyE
import Derived.Test.YtkeockippmmneaaGreatQS3
import Derived.Test.YtkeockippmmneaaGreatQS2
namespace Go.Proofs.YtkeockippmmneaaGreat
open Go.ChangeShapes Go.WideShapes Go.ChangeAt Go.RowKit
set_option linter.unusedVariables false
set_option linter.unusedSimpArgs false
set_option maxRecDepth 100000

/-- What is new since then is written. -/
theorem outP {lo hi P : Nat} {w u u1 : World} (h : Out lo hi w u) (hb : Below P u u1) (hn : ∀ k, k ≠ P → u1.heap[k]? = u.heap[k]?) (hs : u1.heap.size = u.heap.size) (hP : w.heap.size ≤ P) : Out lo hi w u1 :=
  ⟨hb.os.trans h.os, hb.tape.trans h.tape, hb.output.trans h.output, by rw [hs]; exact h.size, fun k hk ho => by rw [hn k (by omega)]; exact h.block k hk ho⟩

theorem Five.atU {u u' : World} {B : Nat} {v0 v1 v2 v3 v4 : Value} (h : Five u B v0 v1 v2 v3 v4) (hk : u'.heap[B]? = u.heap[B]?) : Five u' B v0 v1 v2 v3 v4 :=
  ⟨by rw [World.cell?_of_block (w := u) hk]; exact h.c0, by rw [World.cell?_of_block (w := u) hk]; exact h.c1, by rw [World.cell?_of_block (w := u) hk]; exact h.c2, by rw [World.cell?_of_block (w := u) hk]; exact h.c3, by rw [World.cell?_of_block (w := u) hk]; exact h.c4, fun o => by rw [World.frozen?_of_block (w := u) hk]; exact h.f o⟩

/-- What holds as j kids have been made shorter where they lie. -/
structure LeI (lo hi b off d : Nat) (es : List ExprD) (ss : Nat → Value) (l h : Nat → Nat) (j : Nat) (wr : World) : Prop where
  done : ∀ i e, i < j → es[i]? = some e → Cell5 wr b (off + i * 5) (slimD d e) (ss i) ∧ KO wr (l i) (h i) (ss i) (slimD d e).kids
  todo : ∀ i e, j ≤ i → es[i]? = some e → Cell5 wr b (off + i * 5) e (ss i) ∧ KO wr (l i) (h i) (ss i) e.kids
  frozen : ∀ o, wr.frozen? ⟨b, off + o, none⟩ = false

theorem LeI.next {lo hi b off d : Nat} {es : List ExprD} {ss : Nat → Value} {l h : Nat → Nat} {j : Nat} {wr u u5 : World} {e : ExprD} {s' : Value} (k : LeI lo hi b off d es ss l h j wr) (he : es[j]? = some e) (hw : hi ≤ wr.heap.size) (hb : lo ≤ b ∧ b < hi)
    (hr : ∀ i, i < es.length → lo ≤ l i ∧ h i ≤ hi ∧ (b < l i ∨ h i ≤ b)) (hd : ∀ i j, i < j → j < es.length → h i ≤ l j ∨ h j ≤ l i) (ho : Out (l j) (h j) wr u) (hk : KO u (l j) (h j) s' (slimD d e).kids)
    (hc : Cell5 u5 b (off + j * 5) (slimD d e) s') (hoo : ∀ b' x, b' ≠ b ∨ x < off + j * 5 ∨ off + j * 5 + 5 ≤ x → u5.cell? ⟨b', x, none⟩ = u.cell? ⟨b', x, none⟩) (hf : ∀ b x, u5.frozen? ⟨b, x, none⟩ = u.frozen? ⟨b, x, none⟩)
    (hh : ∀ k, k ≠ b → u5.heap[k]? = u.heap[k]?) : LeI lo hi b off d es (fun i => if i = j then s' else ss i) l h (j + 1) u5 := by
  have hjl : j < es.length := (List.getElem?_eq_some_iff.mp he).1
  have hrj := hr j hjl
  have hbu : u.heap[b]? = wr.heap[b]? := ho.block b (by omega) (by omega)
  have hkeep : ∀ i, i < es.length → i ≠ j → ∀ q, l i ≤ q → q < h i → u5.heap[q]? = wr.heap[q]? := fun i hi hne q h1 h2 => by
    have hri := hr i hi
    have hdij : h i ≤ l j ∨ h j ≤ l i := by
      rcases Nat.lt_or_gt_of_ne hne with hlt | hgt
      · exact hd i j hlt hjl
      · exact (hd j i hgt hi).symm
    rw [hh q (by omega)]
    exact ho.block q (by omega) (by omega)
  refine ⟨fun i e' hi hie => ?_, fun i e' hi hie => ?_, fun o => by rw [hf, World.frozen?_of_block (w := wr) hbu]; exact k.frozen o⟩
  · have hil : i < es.length := (List.getElem?_eq_some_iff.mp hie).1
    by_cases ej : i = j
    · subst ej
      rw [he] at hie; cases hie
      simp only [if_true]
      exact ⟨hc, hk.kept fun q h1 h2 => hh q (by omega)⟩
    · simp only [if_neg ej]
      obtain ⟨d5, dk⟩ := k.done i e' (by omega) hie
      have d6 := d5.kept hbu
      refine ⟨⟨?_, ?_, ?_, ?_, ?_⟩, dk.kept (hkeep i hil ej)⟩
      · rw [hoo _ _ (by omega)]; exact d6.c0
      · rw [hoo _ _ (by omega)]; exact d6.c1
      · rw [hoo _ _ (by omega)]; exact d6.c2
      · rw [hoo _ _ (by omega)]; exact d6.c3
      · rw [hoo _ _ (by omega)]; exact d6.c4
  · have hil : i < es.length := (List.getElem?_eq_some_iff.mp hie).1
    have ej : i ≠ j := by omega
    simp only [if_neg ej]
    obtain ⟨d5, dk⟩ := k.todo i e' (by omega) hie
    have d6 := d5.kept hbu
    refine ⟨⟨?_, ?_, ?_, ?_, ?_⟩, dk.kept (hkeep i hil ej)⟩
    · rw [hoo _ _ (by omega)]; exact d6.c0
    · rw [hoo _ _ (by omega)]; exact d6.c1
    · rw [hoo _ _ (by omega)]; exact d6.c2
    · rw [hoo _ _ (by omega)]; exact d6.c3
    · rw [hoo _ _ (by omega)]; exact d6.c4

theorem LeI.ko {lo hi b off d cap : Nat} {es : List ExprD} {ss : Nat → Value} {l h : Nat → Nat} {wr : World} (k : LeI lo hi b off d es ss l h es.length wr) (h0 : es ≠ []) (h1 : es.length ≤ cap) (h2 : cap ≤ maxLen) (hb : lo ≤ b ∧ b < hi)
    (hr : ∀ i, i < es.length → lo ≤ l i ∧ h i ≤ hi ∧ (b < l i ∨ h i ≤ b)) (hd : ∀ i j, i < j → j < es.length → h i ≤ l j ∨ h j ≤ l i) :
    KO wr lo hi (.slice (some ⟨b, off, none⟩) es.length cap) (es.map (slimD d)) := by
  have hlen : (es.map (slimD d)).length = es.length := by simp
  have hback : ∀ i x, (es.map (slimD d))[i]? = some x → ∃ e : ExprD, es[i]? = some e ∧ x = slimD d e := fun i x hix => by
    rw [List.getElem?_map] at hix
    cases hq : es[i]? with
    | none => rw [hq] at hix; simp at hix
    | some q => rw [hq] at hix; simp at hix; exact ⟨q, hq, hix.symm⟩
  have H := KO.cons (w := wr) lo hi b off cap (es.map (slimD d)) ss l h (fun hq => h0 (List.eq_nil_of_length_eq_zero (by rw [← hlen, hq]; rfl))) (by rw [hlen]; exact h1) h2 hb.1 hb.2 k.frozen (fun i x hix => ?_) (fun i hi => hr i (by rw [hlen] at hi; exact hi)) (fun i j hij hj => hd i j hij (by rw [hlen] at hj; exact hj)) (fun i x hix => ?_)
  · rw [hlen] at H; exact H
  · obtain ⟨q, hq, rfl⟩ := hback i x hix
    exact (k.done i q (List.getElem?_eq_some_iff.mp hq).1 hq).1
  · obtain ⟨q, hq, rfl⟩ := hback i x hix
    exact (k.done i q (List.getElem?_eq_some_iff.mp hq).1 hq).2

/-- The kids at work: none, or a row. -/
def LeK (lo hi d : Nat) (v : Value) (es : List ExprD) (j : Nat) (wr : World) : Prop :=
  (es = [] ∧ ∃ ad cap, v = .slice ad 0 cap ∧ cap ≤ maxLen) ∨ ∃ b off cap ss l h, es ≠ [] ∧ v = .slice (some ⟨b, off, none⟩) es.length cap ∧ es.length ≤ cap ∧ cap ≤ maxLen ∧ (lo ≤ b ∧ b < hi) ∧
    (∀ i, i < es.length → lo ≤ l i ∧ h i ≤ hi ∧ (b < l i ∨ h i ≤ b)) ∧ (∀ i j, i < j → j < es.length → h i ≤ l j ∨ h j ≤ l i) ∧ LeI lo hi b off d es ss l h j wr

theorem LeK.start {w : World} {lo hi d : Nat} {v : Value} {es : List ExprD} (h : KO w lo hi v es) : LeK lo hi d v es 0 w := by
  cases h with
  | nil lo hi ad cap hc => exact .inl ⟨rfl, ad, cap, rfl, hc⟩
  | cons lo hi b off cap es ss l h h0 h1 h2 h3 h4 hf hc hr hd hk => exact .inr ⟨b, off, cap, ss, l, h, h0, rfl, h1, h2, ⟨h3, h4⟩, hr, hd, ⟨fun i e hi => by omega, fun i e _ hie => ⟨hc i e hie, hk i e hie⟩, hf⟩⟩

theorem LeK.ko {wr : World} {lo hi d : Nat} {v : Value} {es : List ExprD} (h : LeK lo hi d v es es.length wr) : KO wr lo hi v (es.map (slimD d)) := by
  rcases h with ⟨rfl, ad, cap, rfl, hc⟩ | ⟨b, off, cap, ss, l, h, h0, rfl, h1, h2, hb, hr, hd, k⟩
  · exact .nil _ _ ad cap hc
  · exact k.ko h0 h1 h2 hb hr hd

theorem short_leaf {e : ExprD} (h : e.k = 1 ∨ e.k = 2) : shortD e = e :=
  shortD_none fun i hi => by
    obtain rfl | rfl | rfl | rfl | rfl | rfl : i = 0 ∨ i = 1 ∨ i = 2 ∨ i = 3 ∨ i = 4 ∨ i = 5 := by omega
    all_goals rcases h with h | h <;> simp [ruleD, h]

theorem short_not {e x : ExprD} (h : e.k = 10) (hx : kidN e 0 = x) : shortD e = if x.k == 1 then numE (isZ (!(x.n != 0))) else e := by
  by_cases h1 : x.k = 1
  · rw [if_pos (by simp [h1])]
    exact shortD_at (j := 0) (fun i hi => by omega) (by simp [ruleD, h, hx, h1])
  · rw [if_neg (by simp [h1])]
    exact shortD_none fun i hi => by
      obtain rfl | rfl | rfl | rfl | rfl | rfl : i = 0 ∨ i = 1 ∨ i = 2 ∨ i = 3 ∨ i = 4 ∨ i = 5 := by omega
      all_goals simp [ruleD, h, hx, h1]

/-- What l10Expr leaves. -/
def LeQ (w : World) (lo hi : Nat) (x : ExprD) (en : Ending) (w' : World) : Prop := ∃ v', en = .returned v' ∧ EO w' lo hi v' x ∧ Out lo hi w w'

theorem leQ_done {w w' : World} {lo hi : Nat} {x y : ExprD} {en : Ending} {v' : Value} (h1 : en = .returned v') (h2 : EO w' lo hi v' y) (h3 : Out lo hi w w') (h4 : x = y) : LeQ w lo hi x en w' := ⟨v', h1, by rw [h4]; exact h2, h3⟩

/-- l10Expr, of what is not deeper than d. -/
def LeS (d : Nat) : Prop := ∀ (w : World) (lo hi : Nat) (v : Value) (e : ExprD), EO w lo hi v e → hi ≤ w.heap.size → formE d e = true → Calls Tryz.prog 25 #[v] w (LeQ w lo hi (slimD d e))

theorem EO.form5U {w : World} {lo hi : Nat} {v : Value} {e : ExprD} (h : EO w lo hi v e) : ∃ ad cap, v = .agg #[.int .i64 e.k, .int .i64 e.n, .int .i64 e.ak, .int .i64 e.at_, .slice ad e.kids.length cap] := by
  obtain ⟨s, rfl, hk⟩ := h
  obtain ⟨ad, cap, rfl, _, _⟩ := hk.kr.shape
  exact ⟨ad, cap, rfl⟩

/-- The world of a round while its region draws: the call has not been made, or it has. -/
structure LeJ (wr : World) (lj hj : Nat) (x : ExprD) (L : Array Bool) (a : Act) (u : World) : Prop where
  out : Out lj hj wr u
  ahead : L.getD 8 true = false → Below wr.heap.size wr u
  behind : L.getD 8 true = true → EO u lj hj (a.tmps.getD 19 undef) x

theorem LeJ.same {wr u : World} {lj hj : Nat} {x : ExprD} {L : Array Bool} {a : Act} (h : LeJ wr lj hj x L a u) {i : Nat} (hi : i ≠ 8) {t : Nat} (ht : t ≠ 19) (v : Value) : LeJ wr lj hj x (L.setIfInBounds i true) (a.put (some t) v) u :=
  ⟨h.out, fun hl => h.ahead (by rwa [getD_set_ne true hi] at hl), fun hl => by rw [getD_put_ne a t 19 v ht]; exact h.behind (by rwa [getD_set_ne true hi] at hl)⟩

set_option maxHeartbeats 16000000 in
theorem leS_step {d : Nat} (H : LeS d) : LeS (d + 1) := by
  intro w lo hi v e he hhi hfm
  obtain ⟨s, rfl, hko⟩ := he
  obtain ⟨ad, cap0, rfl, hsh1, hsh2⟩ := hko.kr.shape
  have hmx : e.kids.length ≤ 9223372036854775807 := by unfold maxLen at hsh2; omega
  have hkf := (form_know hfm).2
  have HQ : Hid ((∀ x, x ∈ e.kids → formE d x = true) ∧ formE (d + 1) e = true) := ⟨hkf, hfm⟩
  obtain ⟨u0, hu0, G0, F0, Z0, S0⟩ := rule_start w e (.slice ad e.kids.length cap0) 42
  have hk0 := LeK.start (d := d) (hko.under G0 hhi)
  have HI : Hid (Five u0 w.heap.size (.int .i64 e.k) (.int .i64 e.n) (.int .i64 e.ak) (.int .i64 e.at_) (.slice ad e.kids.length cap0) ∧ Five u0 (w.heap.size + 1) (.int .i64 0) (.int .i64 0) (.int .i64 0) (.int .i64 0) (.slice none 0 0) ∧ Out lo hi w u0 ∧ LeK lo hi d (.slice ad e.kids.length cap0) e.kids 0 u0) := ⟨F0, Z0, out_of_below G0 _ _, hk0⟩
  obtain ⟨c0, c1, c2, c3, c4, _⟩ := id F0
  clear hkf hfm hko G0 F0 Z0 hk0 hsh1 hsh2
  go_enter Tryz.func25, Tryz.ntmps25
  go_wp2_with fail
  try rw [hu0]
  clear hu0 c0 c1 c2 c3 c4
  go_loopw [3] (fun i wr => ∃ j : Nat, j ≤ e.kids.length ∧ i = .int .i64 j ∧ w.heap.size + 2 ≤ wr.heap.size ∧ Hid (Five wr w.heap.size (.int .i64 e.k) (.int .i64 e.n) (.int .i64 e.ak) (.int .i64 e.at_) (.slice ad e.kids.length cap0) ∧ Five wr (w.heap.size + 1) (.int .i64 0) (.int .i64 0) (.int .i64 0) (.int .i64 0) (.slice none 0 0) ∧ Out lo hi w wr ∧ LeK lo hi d (.slice ad e.kids.length cap0) e.kids j wr)) (fun i _ => e.kids.length - (intOf i).toNat)
  case atStart => exact ⟨0, Nat.zero_le _, rfl, by omega, HI.out⟩
  case round =>
    clear HI S0
    obtain ⟨j, hj, rfl, hs, HR⟩ := hrel
    by_cases hlt : j < e.kids.length
    · obtain ⟨x, hx⟩ : ∃ x, e.kids[j]? = some x := ⟨e.kids[j], List.getElem?_eq_getElem hlt⟩
      have hlt' : (j : Int) < (e.kids.length : Int) := by omega
      rcases HR.out.2.2.2 with ⟨h0, _⟩ | ⟨b, off, cap, ss, l, h, h0, hv, h1, h2, hbb, hr, hd, k⟩
      · rw [h0] at hlt; simp at hlt
      simp only [Value.slice.injEq, true_and] at hv
      obtain ⟨rfl, rfl⟩ := hv
      have HX : Hid (e.kids[j]? = some x) := hx
      obtain ⟨k5, kk⟩ := k.todo j x (Nat.le_refl _) hx
      obtain ⟨xa, xc, hss, _, _⟩ := kk.kr.shape
      rw [hss] at k5 kk
      have hrj := hr j hlt
      have HK : Hid (LeI lo hi b off d e.kids ss l h j wr ∧ e.kids ≠ [] ∧ e.kids.length ≤ cap0 ∧ cap0 ≤ maxLen ∧ (lo ≤ b ∧ b < hi) ∧ (∀ i, i < e.kids.length → lo ≤ l i ∧ h i ≤ hi ∧ (b < l i ∨ h i ≤ b)) ∧ (∀ i j, i < j → j < e.kids.length → h i ≤ l j ∨ h j ≤ l i)) := ⟨k, h0, h1, h2, hbb, hr, hd⟩
      have H5 : Hid (Cell5 wr b (off + j * 5) x (.slice xa x.kids.length xc) ∧ KO wr (l j) (h j) (.slice xa x.kids.length xc) x.kids) := ⟨k5, kk⟩
      have HFX : Hid (formE d x = true) := HQ.out.1 x (List.mem_of_getElem? hx)
      obtain ⟨y0, y1, y2, y3, y4, _⟩ := id HR.out.1
      clear k h0 h1 h2 hr hd k5 kk hx
      go_wp2_with fail
      clear y0 y1 y2 y3 y4
      refine wp_region_last (R := fun _ _ => True) (Φ := fun i v u => match i with
          | 0 => v = .pointer (some ⟨w.heap.size, 4, none⟩)
          | 1 => v = .slice (some ⟨b, off, none⟩) e.kids.length cap0
          | 2 => v = .int .i64 j
          | 3 => v = .pointer (some ⟨w.heap.size, 4, none⟩)
          | 4 => v = .slice (some ⟨b, off, none⟩) e.kids.length cap0
          | 5 => v = .int .i64 j
          | 6 => v = .pointer (some ⟨b, off + j * 5, none⟩)
          | 7 => v = .agg #[.int .i64 x.k, .int .i64 x.n, .int .i64 x.ak, .int .i64 x.at_, .slice xa x.kids.length xc]
          | 9 => v = .pointer (some ⟨b, off + j * 5, none⟩)
          | _ => True)
        (J := LeJ wr (l j) (h j) (slimD d x)) 10 _ rfl rfl (by kernel_rfl) (by kernel_rfl) (by kernel_rfl) (by kernel_rfl) trivial (fun _ _ _ _ _ => trivial) ?_ ⟨out_of_below (Below.drew (Below.refl _ _)) _ _, fun _ => Below.drew (Below.refl _ _), fun h => by simp at h⟩ ?_ ?_
      · intro i v u u' hr
        match i with
        | 0 | 1 | 2 | 3 | 4 | 5 | 6 | 7 | 8 | 9 | _ + 10 => exact fun h => h
      · intro i o ho hin L a u hf hR0 hLs hLi hp he hJ K' hK
        have hsz' : a.tmps.size = 50 := hf.size
        have hO := hJ.out
        have hus := hO.size
        have hE : Five u w.heap.size (.int .i64 e.k) (.int .i64 e.n) (.int .i64 e.ak) (.int .i64 e.at_) (.slice (some ⟨b, off, none⟩) e.kids.length cap0) := HR.out.1.atU (hO.block _ (by omega) (by omega))
        have hC : Cell5 u b (off + j * 5) x (.slice xa x.kids.length xc) := H5.out.1.kept (hO.block _ (by omega) (by omega))
        rcases i with _ | _ | _ | _ | _ | _ | _ | _ | _ | _ | i
        · obtain rfl := Option.some.inj ho
          have q1 : a.tmps.getD 1 undef = .pointer (some ⟨w.heap.size, 0, none⟩) := hf.at_ 1 (by kernel_rfl)
          clear hp he
          go_simp
          exact hK _ _ trivial (getD_put_self a 11 _ (by show _ < a.tmps.size; omega)) (hJ.same (by decide) (by decide) _)
        · obtain rfl := Option.some.inj ho
          have q11 : a.tmps.getD 11 undef = .pointer (some ⟨w.heap.size, 4, none⟩) := hp 0 _ rfl (he _ (Array.mem_of_getElem? (i := 0) rfl) (by kernel_rfl))
          clear hp he
          obtain ⟨c0, c1, c2, c3, c4, _⟩ := hE
          go_simp
          exact hK _ _ trivial (getD_put_self a 12 _ (by show _ < a.tmps.size; omega)) (hJ.same (by decide) (by decide) _)
        · obtain rfl := Option.some.inj ho
          have q3 : a.tmps.getD 3 undef = .int .i64 j := hf.at_ 3 (by kernel_rfl)
          clear hp he
          go_simp
          exact hK _ _ trivial (getD_put_self a 13 _ (by show _ < a.tmps.size; omega)) (hJ.same (by decide) (by decide) _)
        · obtain rfl := Option.some.inj ho
          have q1 : a.tmps.getD 1 undef = .pointer (some ⟨w.heap.size, 0, none⟩) := hf.at_ 1 (by kernel_rfl)
          clear hp he
          go_simp
          exact hK _ _ trivial (getD_put_self a 14 _ (by show _ < a.tmps.size; omega)) (hJ.same (by decide) (by decide) _)
        · obtain rfl := Option.some.inj ho
          have q14 : a.tmps.getD 14 undef = .pointer (some ⟨w.heap.size, 4, none⟩) := hp 3 _ rfl (he _ (Array.mem_of_getElem? (i := 0) rfl) (by kernel_rfl))
          clear hp he
          obtain ⟨c0, c1, c2, c3, c4, _⟩ := hE
          go_simp
          exact hK _ _ trivial (getD_put_self a 15 _ (by show _ < a.tmps.size; omega)) (hJ.same (by decide) (by decide) _)
        · obtain rfl := Option.some.inj ho
          have q3 : a.tmps.getD 3 undef = .int .i64 j := hf.at_ 3 (by kernel_rfl)
          clear hp he
          go_simp
          exact hK _ _ trivial (getD_put_self a 16 _ (by show _ < a.tmps.size; omega)) (hJ.same (by decide) (by decide) _)
        · obtain rfl := Option.some.inj ho
          have q15 : a.tmps.getD 15 undef = .slice (some ⟨b, off, none⟩) e.kids.length cap0 := hp 4 _ rfl (he _ (Array.mem_of_getElem? (i := 0) rfl) (by kernel_rfl))
          have q16 : a.tmps.getD 16 undef = .int .i64 j := hp 5 _ rfl (he _ (Array.mem_of_getElem? (i := 1) rfl) (by kernel_rfl))
          clear hp he
          go_simp
          exact hK _ _ trivial (getD_put_self a 17 _ (by show _ < a.tmps.size; omega)) (hJ.same (by decide) (by decide) _)
        · obtain rfl := Option.some.inj ho
          have q17 : a.tmps.getD 17 undef = .pointer (some ⟨b, off + j * 5, none⟩) := hp 6 _ rfl (he _ (Array.mem_of_getElem? (i := 0) rfl) (by kernel_rfl))
          clear hp he
          obtain ⟨c0, c1, c2, c3, c4⟩ := hC
          go_simp
          exact hK _ _ trivial (getD_put_self a 18 _ (by show _ < a.tmps.size; omega)) (hJ.same (by decide) (by decide) _)
        · obtain rfl := Option.some.inj ho
          have q18 : a.tmps.getD 18 undef = .agg #[.int .i64 x.k, .int .i64 x.n, .int .i64 x.ak, .int .i64 x.at_, .slice xa x.kids.length xc] := hp 7 _ rfl (he _ (Array.mem_of_getElem? (i := 0) rfl) (by kernel_rfl))
          clear hp he
          have hB := hJ.ahead hLi
          have hC8 := H u (l j) (h j) _ x ⟨_, rfl, H5.out.2.under hB (by omega)⟩ (by omega) HFX.out
          go_simp
          refine hC8.mono ?_
          rintro e1 u' ⟨v', rfl, hEO, hO2⟩
          exact hK _ _ trivial trivial ⟨hO.trans hO2, fun hl => by simp [hLs] at hl, fun _ => by show EO u' (l j) (h j) ((a.put (some 19) v').tmps.getD 19 undef) _; rw [getD_put_self a 19 _ (by show _ < a.tmps.size; omega)]; exact hEO⟩
        · obtain rfl := Option.some.inj ho
          have q12 : a.tmps.getD 12 undef = .slice (some ⟨b, off, none⟩) e.kids.length cap0 := hp 1 _ rfl (he _ (Array.mem_of_getElem? (i := 0) rfl) (by kernel_rfl))
          have q13 : a.tmps.getD 13 undef = .int .i64 j := hp 2 _ rfl (he _ (Array.mem_of_getElem? (i := 1) rfl) (by kernel_rfl))
          clear hp he
          go_simp
          exact hK _ _ trivial (getD_put_self a 20 _ (by show _ < a.tmps.size; omega)) (hJ.same (by decide) (by decide) _)
        · omega
      · intro L a u hf hR0 hp hJ K' hK
        have hO := hJ.out
        have hEO := hJ.behind (hp 8 _ (by omega) rfl).1
        obtain ⟨sx, hsx, HXX⟩ := hEO
        have m19 := hsx
        have hus := hO.size
        have m11 : a.tmps.getD 11 undef = .pointer (some ⟨w.heap.size, 4, none⟩) := (hp 0 _ (by omega) rfl).2
        have m12 : a.tmps.getD 12 undef = .slice (some ⟨b, off, none⟩) e.kids.length cap0 := (hp 1 _ (by omega) rfl).2
        have m13 : a.tmps.getD 13 undef = .int .i64 j := (hp 2 _ (by omega) rfl).2
        have m14 : a.tmps.getD 14 undef = .pointer (some ⟨w.heap.size, 4, none⟩) := (hp 3 _ (by omega) rfl).2
        have m15 : a.tmps.getD 15 undef = .slice (some ⟨b, off, none⟩) e.kids.length cap0 := (hp 4 _ (by omega) rfl).2
        have m16 : a.tmps.getD 16 undef = .int .i64 j := (hp 5 _ (by omega) rfl).2
        have m17 : a.tmps.getD 17 undef = .pointer (some ⟨b, off + j * 5, none⟩) := (hp 6 _ (by omega) rfl).2
        have m18 : a.tmps.getD 18 undef = .agg #[.int .i64 x.k, .int .i64 x.n, .int .i64 x.ak, .int .i64 x.at_, .slice xa x.kids.length xc] := (hp 7 _ (by omega) rfl).2
        have m20 : a.tmps.getD 20 undef = .pointer (some ⟨b, off + j * 5, none⟩) := (hp 9 _ (by omega) rfl).2
        have hc5 := H5.out.1.kept (hO.block b (by omega) (by omega))
        have hsm : ∀ z, off + j * 5 ≤ z → z < off + j * 5 + 5 → (u.cell? ⟨b, z, none⟩).isSome = true := fun z h5 h6 => by
          obtain rfl | rfl | rfl | rfl | rfl : z = off + j * 5 ∨ z = off + j * 5 + 1 ∨ z = off + j * 5 + 2 ∨ z = off + j * 5 + 3 ∨ z = off + j * 5 + 4 := by omega
          · rw [hc5.c0]; rfl
          · rw [hc5.c1]; rfl
          · rw [hc5.c2]; rfl
          · rw [hc5.c3]; rfl
          · rw [hc5.c4]; rfl
        obtain ⟨u5, hu5, hcc, hoo, hff, hhh, hzz, hbl⟩ := store5 hsm (.int .i64 (slimD d x).k) (.int .i64 (slimD d x).n) (.int .i64 (slimD d x).ak) (.int .i64 (slimD d x).at_) sx
        have HNX := HK.out.1.next HX.out (by omega) hbb HK.out.2.2.2.2.2.1 HK.out.2.2.2.2.2.2 hO HXX ⟨hcc.1, hcc.2.1, hcc.2.2.1, hcc.2.2.2.1, hcc.2.2.2.2⟩ hoo hff hhh
        have hOW : Out lo hi w u5 := by
          have h1 : Out lo hi w u := HR.out.2.2.1.trans ⟨hO.os, hO.tape, hO.output, hO.size, fun k q1 q2 => hO.block k q1 (by omega)⟩
          have h2 := hbl b u (Nat.le_refl _) (Below.refl _ _)
          exact ⟨h2.os.trans h1.os, h2.tape.trans h1.tape, h2.output.trans h1.output, by rw [hzz]; exact h1.size, fun k q1 q2 => by rw [hhh k (by omega)]; exact h1.block k q1 q2⟩
        have HN : Hid (w.heap.size + 2 ≤ u5.heap.size ∧ Five u5 w.heap.size (.int .i64 e.k) (.int .i64 e.n) (.int .i64 e.ak) (.int .i64 e.at_) (.slice (some ⟨b, off, none⟩) e.kids.length cap0) ∧ Five u5 (w.heap.size + 1) (.int .i64 0) (.int .i64 0) (.int .i64 0) (.int .i64 0) (.slice none 0 0) ∧ Out lo hi w u5 ∧ LeK lo hi d (.slice (some ⟨b, off, none⟩) e.kids.length cap0) e.kids (j + 1) u5) :=
          ⟨by omega, (HR.out.1.atU (hO.block _ (by omega) (by omega))).atU (hhh _ (by omega)), (HR.out.2.1.atU (hO.block _ (by omega) (by omega))).atU (hhh _ (by omega)), hOW, .inr ⟨b, off, cap0, _, l, h, HK.out.2.1, rfl, HK.out.2.2.1, HK.out.2.2.2.1, hbb, HK.out.2.2.2.2.2.1, HK.out.2.2.2.2.2.2, HNX⟩⟩
        have HU5 : Hid (_ = u5) := hu5
        obtain ⟨y0, y1, y2, y3, y4⟩ := id hc5
        have hfz : ∀ o, u.frozen? ⟨b, off + o, none⟩ = false := fun o => by rw [World.frozen?_of_block (w := wr) (hO.block b (by omega) (by omega))]; exact HK.out.1.frozen o
        have yf0 := hfz (j * 5)
        have yf1 := hfz (j * 5 + 1)
        have yf2 := hfz (j * 5 + 2)
        have yf3 := hfz (j * 5 + 3)
        have yf4 := hfz (j * 5 + 4)
        rw [← Nat.add_assoc] at yf1 yf2 yf3 yf4
        obtain ⟨sa, sc, hsl, _, _⟩ := HXX.kr.shape
        subst hsl
        clear hu5 hcc hoo hff hhh hzz hbl HNX hc5 hsm hOW hfz hO hJ hp hR0 HXX hsx HR HK H5 HFX
        obtain ⟨fq, ea, hfv⟩ := act_lit a 50 hf.size
        have md : a.defers = [] := hf.defers
        rw [md] at ea
        have m0 := hf.at_ 0 (by kernel_rfl)
        have m1 := hf.at_ 1 (by kernel_rfl)
        have m2 := hf.at_ 2 (by kernel_rfl)
        have m3 := hf.at_ 3 (by kernel_rfl)
        have m4 := hf.at_ 4 (by kernel_rfl)
        have m5 := hf.at_ 5 (by kernel_rfl)
        have m6 := hf.at_ 6 (by kernel_rfl)
        have m7 := hf.at_ 7 (by kernel_rfl)
        have m8 := hf.at_ 8 (by kernel_rfl)
        have m9 := hf.at_ 9 (by kernel_rfl)
        have m10 := hf.at_ 10 (by kernel_rfl)
        have m21 := hf.at_ 21 (by kernel_rfl)
        have m22 := hf.at_ 22 (by kernel_rfl)
        have m23 := hf.at_ 23 (by kernel_rfl)
        have m24 := hf.at_ 24 (by kernel_rfl)
        have m25 := hf.at_ 25 (by kernel_rfl)
        have m26 := hf.at_ 26 (by kernel_rfl)
        have m27 := hf.at_ 27 (by kernel_rfl)
        have m28 := hf.at_ 28 (by kernel_rfl)
        have m29 := hf.at_ 29 (by kernel_rfl)
        have m30 := hf.at_ 30 (by kernel_rfl)
        have m31 := hf.at_ 31 (by kernel_rfl)
        have m32 := hf.at_ 32 (by kernel_rfl)
        have m33 := hf.at_ 33 (by kernel_rfl)
        have m34 := hf.at_ 34 (by kernel_rfl)
        have m35 := hf.at_ 35 (by kernel_rfl)
        have m36 := hf.at_ 36 (by kernel_rfl)
        have m37 := hf.at_ 37 (by kernel_rfl)
        have m38 := hf.at_ 38 (by kernel_rfl)
        have m39 := hf.at_ 39 (by kernel_rfl)
        have m40 := hf.at_ 40 (by kernel_rfl)
        have m41 := hf.at_ 41 (by kernel_rfl)
        have m42 := hf.at_ 42 (by kernel_rfl)
        have m43 := hf.at_ 43 (by kernel_rfl)
        have m44 := hf.at_ 44 (by kernel_rfl)
        have m45 := hf.at_ 45 (by kernel_rfl)
        have m46 := hf.at_ 46 (by kernel_rfl)
        have m47 := hf.at_ 47 (by kernel_rfl)
        have m48 := hf.at_ 48 (by kernel_rfl)
        have m49 := hf.at_ 49 (by kernel_rfl)
        rw [← hfv] at m0 m1 m2 m3 m4 m5 m6 m7 m8 m9 m10 m21 m22 m23 m24 m25 m26 m27 m28 m29 m30 m31 m32 m33 m34 m35 m36 m37 m38 m39 m40 m41 m42 m43 m44 m45 m46 m47 m48 m49 m11 m12 m13 m14 m15 m16 m17 m18 m19 m20
        simp only [Array.getD_eq_getD_getElem?, List.getElem?_toArray, List.getElem?_cons_succ, List.getElem?_cons_zero, Option.getD_some] at m0 m1 m2 m3 m4 m5 m6 m7 m8 m9 m10 m21 m22 m23 m24 m25 m26 m27 m28 m29 m30 m31 m32 m33 m34 m35 m36 m37 m38 m39 m40 m41 m42 m43 m44 m45 m46 m47 m48 m49
        simp only [List.range, List.range.loop, List.map_cons, List.map_nil, m0, m1, m2, m3, m4, m5, m6, m7, m8, m9, m10, m21, m22, m23, m24, m25, m26, m27, m28, m29, m30, m31, m32, m33, m34, m35, m36, m37, m38, m39, m40, m41, m42, m43, m44, m45, m46, m47, m48, m49, m11, m12, m13, m14, m15, m16, m17, m18, m19, m20] at ea
        subst ea
        clear m0 m1 m2 m3 m4 m5 m6 m7 m8 m9 m10 m21 m22 m23 m24 m25 m26 m27 m28 m29 m30 m31 m32 m33 m34 m35 m36 m37 m38 m39 m40 m41 m42 m43 m44 m45 m46 m47 m48 m49 m11 m12 m13 m14 m15 m16 m17 m18 m19 m20 hfv md hf
        go_simp
        try rw [HU5.out]
        refine hK _ _ ?_
        clear hK y0 y1 y2 y3 y4 yf0 yf1 yf2 yf3 yf4 HU5
        go_wp2
        go_roundw
        case rel => exact ⟨j + 1, by omega, by go_num, HN.out.1, HN.out.2⟩
        case measure => simp [intOf]; omega
    · obtain rfl : j = e.kids.length := by omega
      have hko := HR.out.2.2.2.ko
      obtain ⟨E, hE⟩ : ∃ E, withK e (e.kids.map (slimD d)) = E := ⟨_, rfl⟩
      have hEk : E.k = e.k ∧ E.n = e.n ∧ E.ak = e.ak ∧ E.at_ = e.at_ ∧ E.kids = e.kids.map (slimD d) := by rw [← hE]; exact ⟨rfl, rfl, rfl, rfl, rfl⟩
      have hEf : formE (d + 1) E = true := by
        rw [← hE]
        refine withK_form HQ.out.2 (by rw [List.length_map]) fun x hx => ?_
        obtain ⟨y, hy, rfl⟩ := List.mem_map.1 hx
        exact slim_form d y (HQ.out.1 y hy)
      have hEl : e.kids.length = E.kids.length := by rw [hEk.2.2.2.2, List.length_map]
      have HE : Hid (slimD (d + 1) e = shortD E ∧ formE (d + 1) E = true) := ⟨by rw [slimD_succ, hE], hEf⟩
      have HF : Hid (Five wr w.heap.size (.int .i64 E.k) (.int .i64 E.n) (.int .i64 E.ak) (.int .i64 E.at_) (.slice ad E.kids.length cap0)) := by
        show Five wr _ _ _ _ _ _
        rw [hEk.1, hEk.2.1, hEk.2.2.1, hEk.2.2.2.1, ← hEl]
        exact HR.out.1
      have HO : Hid (KO wr lo hi (.slice ad E.kids.length cap0) E.kids ∧ Five wr (w.heap.size + 1) (.int .i64 0) (.int .i64 0) (.int .i64 0) (.int .i64 0) (.slice none 0 0) ∧ Out lo hi w wr) := ⟨by rw [← hEl, hEk.2.2.2.2]; exact hko, HR.out.2.1, HR.out.2.2.1⟩
      have hEl2 : (e.kids.length : Int) = (E.kids.length : Int) := by omega
      have hlk := (form_know hEf).1
      try rw [hEl]
      clear hko hEk hEf HR hE HQ hlt hj
      obtain ⟨t0, t1, t2, t3, t4, _⟩ := id HF.out
      by_cases h10 : E.k = 10
      · obtain ⟨x, hkids, hk0⟩ := slim_one HE.out.2 h10
        obtain ⟨b, off, cap, sx, lx, hx, hsl, hb1, hb2, h5, kx, ix⟩ := cells_one HO.out.1 hkids
        have hl1 : E.kids.length = 1 := by rw [hkids]; rfl
        rw [hl1] at hsl
        simp only [Value.slice.injEq, true_and] at hsl
        obtain ⟨rfl, rfl⟩ := hsl
        have HSN : Hid (slimD (d + 1) e = if x.k == 1 then numE (isZ (!(x.n != 0))) else E) := by show _ = _; rw [HE.out.1]; exact short_not h10 hk0
        have b10 : (E.k == 10) = true := by simp [h10]
        have hli : (E.kids.length : Int) = 1 := by omega
        have hne2 : ((E.kids.length : Int) == 2) = false := by rw [hli]; rfl
        have hlt0 : (0 : Int) < (E.kids.length : Int) := by omega
        obtain ⟨f0, f1, f2, f3, f4⟩ := id h5
        have HLL : Hid (E.kids.length = 1) := hl1
        clear h10 hkids hk0 h5 kx ix hl1 hli hlk
        cases hx1 : (x.k == 1) with
        | true =>
          have HSX : Hid (slimD (d + 1) e = numE (isZ (!(x.n != 0)))) := by show _ = _; rw [HSN.out, hx1]; rfl
          go_wp2_with fail
          refine (sOn_any x.n _).mono ?_
          rintro e1 w1 ⟨rfl, h1⟩
          rw [h1]
          clear h1 w1
          obtain ⟨nb, hnb⟩ : ∃ nb, (!(x.n != 0)) = nb := ⟨_, rfl⟩
          rw [hnb] at HSX
          go_wp2_with fail
          try rw [hnb]
          refine (sIs_any _ _).mono ?_
          rintro e2 w2 ⟨rfl, h2⟩
          rw [h2]
          clear h2 w2
          obtain ⟨n, hn⟩ : ∃ n, isZ nb = n := ⟨_, rfl⟩
          rw [hn] at HSX ⊢
          go_wp2_with fail
          refine (sNum10_any _ _).mono ?_
          rintro e3 w3 ⟨rfl, g3⟩
          have Z3 := HO.out.2.1.under g3 (by omega)
          have O3 : Out lo hi w w3 := HO.out.2.2.trans (out_of_below g3 _ _)
          have s3 := g3.size
          clear g3 t0 t1 t2 t3 t4 f0 f1 f2 f3 f4
          obtain ⟨u5, hu5, F5, N5, S5, B5⟩ := fiveStore Z3 (.int .i64 1) (.int .i64 n) (.int .i64 0) (.int .i64 0) (.slice none 0 0)
          have HU5 : Hid (_ = u5) := hu5
          have HB : Hid (Out lo hi w u5 ∧ Five u5 (w.heap.size + 1) (.int .i64 1) (.int .i64 n) (.int .i64 0) (.int .i64 0) (.slice none 0 0) ∧ EO u5 lo hi (.agg #[.int .i64 1, .int .i64 n, .int .i64 0, .int .i64 0, .slice none 0 0]) (numE n)) := ⟨outP O3 B5 N5 S5 (by omega), F5, eo_num _ _ _ _⟩
          obtain ⟨z0, z1, z2, z3, z4, zf⟩ := id Z3
          have zf0 := zf 0
          have zf1 := zf 1
          have zf2 := zf 2
          have zf3 := zf 3
          have zf4 := zf 4
          clear hu5 F5 N5 B5 zf
          go_wp2
          rw [HU5.out]
          obtain ⟨r0, r1, r2, r3, r4, _⟩ := HB.out.2.1
          exact bodyPost_ret (v := .agg #[.int .i64 1, .int .i64 n, .int .i64 0, .int .i64 0, .slice none 0 0]) (by simp [results, Tryz.results25, go_sem, r0, r1, r2, r3, r4]) rfl (leQ_done rfl HB.out.2.2 HB.out.1 (by rw [HSX.out]))
        | false =>
          have HSX : Hid (slimD (d + 1) e = E) := by show _ = _; rw [HSN.out, hx1]; rfl
          obtain ⟨u5, hu5, F5, N5, S5, B5⟩ := fiveStore HO.out.2.1 (.int .i64 E.k) (.int .i64 E.n) (.int .i64 E.ak) (.int .i64 E.at_) (.slice (some ⟨b, off, none⟩) E.kids.length cap0)
          have HU5 : Hid (_ = u5) := hu5
          have HB : Hid (Out lo hi w u5 ∧ Five u5 (w.heap.size + 1) (.int .i64 E.k) (.int .i64 E.n) (.int .i64 E.ak) (.int .i64 E.at_) (.slice (some ⟨b, off, none⟩) E.kids.length cap0) ∧ EO u5 lo hi (.agg #[.int .i64 E.k, .int .i64 E.n, .int .i64 E.ak, .int .i64 E.at_, .slice (some ⟨b, off, none⟩) E.kids.length cap0]) (E)) := ⟨outP HO.out.2.2 B5 N5 S5 (by omega), F5, ⟨_, rfl, HO.out.1.kept fun k q1 q2 => N5 k (by omega)⟩⟩
          obtain ⟨z0, z1, z2, z3, z4, zf⟩ := id HO.out.2.1
          have zf0 := zf 0
          have zf1 := zf 1
          have zf2 := zf 2
          have zf3 := zf 3
          have zf4 := zf 4
          clear hu5 F5 N5 B5 zf
          go_wp2
          rw [HU5.out]
          obtain ⟨r0, r1, r2, r3, r4, _⟩ := HB.out.2.1
          exact bodyPost_ret (v := .agg #[.int .i64 E.k, .int .i64 E.n, .int .i64 E.ak, .int .i64 E.at_, .slice (some ⟨b, off, none⟩) E.kids.length cap0]) (by simp [results, Tryz.results25, go_sem, r0, r1, r2, r3, r4]) rfl (leQ_done rfl HB.out.2.2 HB.out.1 (by rw [HSX.out]))
      have b10 : (E.k == 10) = false := by simp [h10]
      by_cases h39 : 3 ≤ E.k ∧ E.k ≤ 9
      · have hl2 : E.kids.length = 2 := by
          unfold kidsOf at hlk
          rw [if_neg (by omega), if_neg (by omega), if_neg (by omega), if_pos h39] at hlk
          omega
        have he2 : ((E.kids.length : Int) == 2) = true := by rw [hl2]; rfl
        have hcl := l10Two_any wr lo hi d _ E HO.out.1 (by omega) HE.out.2 h39
        clear h10 h39 hlk hl2
        go_wp2_with fail
        refine hcl.mono ?_
        clear hcl t0 t1 t2 t3 t4
        rintro e3 w3 ⟨v3, rfl, hEO, g3⟩
        rw [← HE.out.1] at hEO
        obtain ⟨X, hX⟩ : ∃ X, slimD (d + 1) e = X := ⟨_, rfl⟩
        rw [hX] at hEO
        have HSX : Hid (slimD (d + 1) e = X) := hX
        obtain ⟨xa, xc, rfl⟩ := hEO.form5U
        have HEO : Hid (EO w3 lo hi (.agg #[.int .i64 X.k, .int .i64 X.n, .int .i64 X.ak, .int .i64 X.at_, .slice xa X.kids.length xc]) X) := hEO
        have Z3 := HO.out.2.1.under g3 (by omega)
        have O3 : Out lo hi w w3 := HO.out.2.2.trans (out_of_below g3 _ _)
        have s3 := g3.size
        clear g3 hX hEO
        obtain ⟨u5, hu5, F5, N5, S5, B5⟩ := fiveStore Z3 (.int .i64 X.k) (.int .i64 X.n) (.int .i64 X.ak) (.int .i64 X.at_) (.slice xa X.kids.length xc)
        have HU5 : Hid (_ = u5) := hu5
        have HB : Hid (Out lo hi w u5 ∧ Five u5 (w.heap.size + 1) (.int .i64 X.k) (.int .i64 X.n) (.int .i64 X.ak) (.int .i64 X.at_) (.slice xa X.kids.length xc) ∧ EO u5 lo hi (.agg #[.int .i64 X.k, .int .i64 X.n, .int .i64 X.ak, .int .i64 X.at_, .slice xa X.kids.length xc]) (X)) := ⟨outP O3 B5 N5 S5 (by omega), F5, HEO.out.kept fun k q1 q2 => N5 k (by omega)⟩
        obtain ⟨z0, z1, z2, z3, z4, zf⟩ := id Z3
        have zf0 := zf 0
        have zf1 := zf 1
        have zf2 := zf 2
        have zf3 := zf 3
        have zf4 := zf 4
        clear hu5 F5 N5 B5 zf
        go_wp2
        rw [HU5.out]
        obtain ⟨r0, r1, r2, r3, r4, _⟩ := HB.out.2.1
        exact bodyPost_ret (v := .agg #[.int .i64 X.k, .int .i64 X.n, .int .i64 X.ak, .int .i64 X.at_, .slice xa X.kids.length xc]) (by simp [results, Tryz.results25, go_sem, r0, r1, r2, r3, r4]) rfl (leQ_done rfl HB.out.2.2 HB.out.1 (by rw [HSX.out]))
      have h12 : E.k = 1 ∨ E.k = 2 := by
        unfold kidsOf at hlk
        by_cases e1 : E.k = 1
        · exact .inl e1
        by_cases e2 : E.k = 2
        · exact .inr e2
        rw [if_neg e1, if_neg e2, if_neg h10, if_neg h39] at hlk
        omega
      have hl0 : E.kids.length = 0 := by
        rcases h12 with h | h
        · rw [h] at hlk; have : kidsOf 1 = 0 := rfl; omega
        · rw [h] at hlk; have : kidsOf 2 = 0 := rfl; omega
      have he2 : ((E.kids.length : Int) == 2) = false := by rw [hl0]; rfl
      have HSX : Hid (slimD (d + 1) e = E) := by show _ = _; rw [HE.out.1]; exact short_leaf h12
      clear h10 h39 hlk h12 hl0
      obtain ⟨u5, hu5, F5, N5, S5, B5⟩ := fiveStore HO.out.2.1 (.int .i64 E.k) (.int .i64 E.n) (.int .i64 E.ak) (.int .i64 E.at_) (.slice ad E.kids.length cap0)
      have HU5 : Hid (_ = u5) := hu5
      have HB : Hid (Out lo hi w u5 ∧ Five u5 (w.heap.size + 1) (.int .i64 E.k) (.int .i64 E.n) (.int .i64 E.ak) (.int .i64 E.at_) (.slice ad E.kids.length cap0) ∧ EO u5 lo hi (.agg #[.int .i64 E.k, .int .i64 E.n, .int .i64 E.ak, .int .i64 E.at_, .slice ad E.kids.length cap0]) (E)) := ⟨outP HO.out.2.2 B5 N5 S5 (by omega), F5, ⟨_, rfl, HO.out.1.kept fun k q1 q2 => N5 k (by omega)⟩⟩
      obtain ⟨z0, z1, z2, z3, z4, zf⟩ := id HO.out.2.1
      have zf0 := zf 0
      have zf1 := zf 1
      have zf2 := zf 2
      have zf3 := zf 3
      have zf4 := zf 4
      clear hu5 F5 N5 B5 zf
      go_wp2
      rw [HU5.out]
      obtain ⟨r0, r1, r2, r3, r4, _⟩ := HB.out.2.1
      exact bodyPost_ret (v := .agg #[.int .i64 E.k, .int .i64 E.n, .int .i64 E.ak, .int .i64 E.at_, .slice ad E.kids.length cap0]) (by simp [results, Tryz.results25, go_sem, r0, r1, r2, r3, r4]) rfl (leQ_done rfl HB.out.2.2 HB.out.1 (by rw [HSX.out]))

theorem leS : ∀ d, LeS d
  | 0 => by intro w lo hi v e _ _ h; rw [formE] at h; cases h
  | d + 1 => leS_step (leS d)

end Go.Proofs.YtkeockippmmneaaGreat
