/-
  What the steps of code do, as data: each leaves what nextC says.
-/
import Derived.Test.YtdhpbiplkjpiiaaGreatDoorMacD
namespace Go.Proofs.YtdhpbiplkjpiiaaGreatDoor
open Go.ChangeShapes Go.WideShapes Go.ChangeAt Go.RowKit
set_option linter.unusedVariables false
set_option maxRecDepth 100000

/-- A machine that holds this memory, these numbers, this fuel, and goes on there; its memory lies behind A. -/
def MacS (A : Nat) (w : World) (B : Nat) (d : MemD) (st : List Int) (f : Nat) (pc : Int) : Prop :=
  ∃ x y z lo hi h, MacC w B x y z (f : Int) h (st.length : Int) pc ∧ MO w lo hi (.agg #[x, y, z]) d ∧ hi ≤ w.heap.size ∧ A ≤ lo ∧ (B < lo ∨ hi ≤ B) ∧ ∀ j v, st[j]? = some v → h j = v

theorem hold_push {st : List Int} {h : Nat → Int} (hh : ∀ j v, st[j]? = some v → h j = v) (n : Int) : ∀ j v, (st ++ [n])[j]? = some v → upd h st.length n j = v := by
  intro j v hv
  by_cases e : j = st.length
  · subst e
    rw [List.getElem?_append_right (Nat.le_refl _), Nat.sub_self] at hv
    simp only [List.getElem?_cons_zero, Option.some.injEq] at hv
    rw [upd_self, hv]
  · have hlt : j < (st ++ [n]).length := (List.getElem?_eq_some_iff.mp hv).1
    rw [List.length_append, List.length_cons, List.length_nil] at hlt
    rw [List.getElem?_append_left (by omega)] at hv
    rw [upd_ne _ e]
    exact hh j v hv

theorem hold_take {st : List Int} {h : Nat → Int} (hh : ∀ j v, st[j]? = some v → h j = v) (k : Nat) : ∀ j v, (st.take k)[j]? = some v → h j = v := by
  intro j v hv
  have hlt : j < (st.take k).length := (List.getElem?_eq_some_iff.mp hv).1
  rw [List.length_take] at hlt
  rw [List.getElem?_take_of_lt (by omega)] at hv
  exact hh j v hv

theorem hold_at {st : List Int} {h : Nat → Int} (hh : ∀ j v, st[j]? = some v → h j = v) {k : Nat} (hk : k < st.length) : h k = (st[k]?).getD 0 := by
  rw [List.getElem?_eq_getElem hk, Option.getD_some]
  exact hh k _ (List.getElem?_eq_getElem hk)

theorem next1 {p : InsD} {s : RunC} (h : p.op = 1) : nextC p s = ⟨s.pc + 1, s.d, s.st ++ [p.n], s.f⟩ := by unfold nextC jumpsI memI stackI; simp [h]
theorem next2 {p : InsD} {s : RunC} (h : p.op = 2) : nextC p s = ⟨s.pc + 1, s.d, s.st ++ [getD_ s.d p.ak p.at_], s.f⟩ := by unfold nextC jumpsI memI stackI; simp [h]
theorem next3 {p : InsD} {s : RunC} (h : p.op = 3) : nextC p s = ⟨s.pc + 1, memSet s.d ⟨p.ak, p.at_⟩ (topI s.st), s.st.take (s.st.length - 1), s.f⟩ := by unfold nextC jumpsI memI stackI; simp [h]
theorem next4 {p : InsD} {s : RunC} (h : p.op = 4) : nextC p s = ⟨s.pc + 1, s.d, s.st.take (s.st.length - 2) ++ [twoZ p.n (sndI s.st) (topI s.st)], s.f⟩ := by unfold nextC jumpsI memI stackI; simp [h]
theorem next5 {p : InsD} {s : RunC} (h : p.op = 5) : nextC p s = ⟨s.pc + 1, s.d, s.st.take (s.st.length - 1) ++ [isZ (!(topI s.st != 0))], s.f⟩ := by unfold nextC jumpsI memI stackI; simp [h]
theorem next6 {p : InsD} {s : RunC} (h : p.op = 6) : nextC p s = ⟨if topI s.st != 0 then s.pc + 1 else p.n.toNat, s.d, s.st.take (s.st.length - 1), s.f⟩ := by
  unfold nextC jumpsI memI stackI
  cases hb : (topI s.st != 0) <;> simp [h]
theorem next7 {p : InsD} {s : RunC} (h : p.op = 7) : nextC p s = ⟨p.n.toNat, s.d, s.st, s.f⟩ := by unfold nextC jumpsI memI stackI; simp [h]
theorem next8 {p : InsD} {s : RunC} (h : p.op = 8) : nextC p s = ⟨p.n.toNat, s.d, s.st, s.f - 1⟩ := by unfold nextC jumpsI memI stackI; simp [h]

variable {A : Nat} {w : World} {B I : Nat} {p : InsD} {s : RunC}

theorem mac1 (hv : MacS A w B s.d s.st s.f ((s.pc : Int) + 1)) (ho : p.op = 1) (hk : s.st.length < 12) (hB : B < w.heap.size) (hI : I < w.heap.size) (hIB : I ≠ B) (hi : CellI w I 0 p) :
    Calls Tryz.prog 58 #[.pointer (some ⟨B, 0, none⟩), .pointer (some ⟨I, 0, none⟩)] w fun e w' => e = .returned .nilIface ∧ MacS A w' B (nextC p s).d (nextC p s).st (nextC p s).f ((nextC p s).pc : Int) ∧ Out B (B + 1) w w' := by
  obtain ⟨x, y, z, lo, hi', h, hm, hmo, h1, h2, h3, h4⟩ := hv
  refine (step1_any w B I x y z s.f h s.st.length _ p hm hk hB hI hIB hi).mono ?_
  rintro e w' ⟨rfl, m, o⟩
  rw [next1 ho]
  refine ⟨rfl, ⟨x, y, z, lo, hi', _, ?_, hmo.out o h1 (by omega), Nat.le_trans h1 o.size, h2, h3, hold_push h4 p.n⟩, o⟩
  have e1 : (((s.st ++ [p.n]).length : Nat) : Int) = (s.st.length : Int) + 1 := by simp
  have e2 : (((s.pc + 1 : Nat)) : Int) = (s.pc : Int) + 1 := by omega
  rw [e1, e2]
  exact m

theorem mac2 (hv : MacS A w B s.d s.st s.f ((s.pc : Int) + 1)) (hd : memOk s.d = true) (ha : addrOk ⟨p.ak, p.at_⟩ = true) (ho : p.op = 2) (hk : s.st.length < 12) (hB : B < w.heap.size) (hI : I < w.heap.size) (hIB : I ≠ B) (hi : CellI w I 0 p) :
    Calls Tryz.prog 60 #[.pointer (some ⟨B, 0, none⟩), .pointer (some ⟨I, 0, none⟩)] w fun e w' => e = .returned .nilIface ∧ MacS A w' B (nextC p s).d (nextC p s).st (nextC p s).f ((nextC p s).pc : Int) ∧ Out B (B + 1) w w' := by
  obtain ⟨x, y, z, lo, hi', h, hm, hmo, h1, h2, h3, h4⟩ := hv
  refine (step2_any w B I x y z s.f h s.st.length _ p s.d lo hi' hmo.mi h1 h3 hm hk hB hI hIB hi).mono ?_
  rintro e w' ⟨rfl, m, o⟩
  have eg : memGet s.d ⟨p.ak, p.at_⟩ = getD_ s.d p.ak p.at_ := by unfold memGet getD_; rw [hd, ha]; rfl
  rw [eg] at m
  rw [next2 ho]
  refine ⟨rfl, ⟨x, y, z, lo, hi', _, ?_, hmo.out o h1 (by omega), Nat.le_trans h1 o.size, h2, h3, hold_push h4 _⟩, o⟩
  have e1 : (((s.st ++ [getD_ s.d p.ak p.at_]).length : Nat) : Int) = (s.st.length : Int) + 1 := by simp
  have e2 : (((s.pc + 1 : Nat)) : Int) = (s.pc : Int) + 1 := by omega
  rw [e1, e2]
  exact m

theorem mac3 (hv : MacS A w B s.d s.st s.f ((s.pc : Int) + 1)) (hA : A ≤ w.heap.size) (hd : memOk s.d = true) (ha : addrOk ⟨p.ak, p.at_⟩ = true) (ho : p.op = 3) (hn : 1 ≤ s.st.length) (hk : s.st.length ≤ 12) (hB : B < w.heap.size) (hI : I < w.heap.size) (hIB : I ≠ B) (hi : CellI w I 0 p) :
    Calls Tryz.prog 62 #[.pointer (some ⟨B, 0, none⟩), .pointer (some ⟨I, 0, none⟩)] w fun e w' => e = .returned .nilIface ∧ MacS A w' B (nextC p s).d (nextC p s).st (nextC p s).f ((nextC p s).pc : Int) ∧ Out B (B + 1) w w' := by
  obtain ⟨x, y, z, lo, hi', h, hm, hmo, h1, h2, h3, h4⟩ := hv
  obtain ⟨k, hk'⟩ : ∃ k, s.st.length = k + 1 := ⟨s.st.length - 1, by omega⟩
  have hc : ((s.st.length : Nat) : Int) = (k : Int) + 1 := by omega
  rw [hc] at hm
  refine (step3_any w B I x y z s.f h k _ p s.d lo hi' hmo.mi h1 h3 hm (by omega) hB hI hIB hi).mono ?_
  rintro e w' ⟨rfl, ⟨x', y', z', lo', hi2, m, hmo', h5, h6⟩, o⟩
  have et : h k = topI s.st := by unfold topI; rw [hk', Nat.add_sub_cancel]; exact hold_at h4 (by omega)
  have eg : memPut s.d ⟨p.ak, p.at_⟩ (h k) = memSet s.d ⟨p.ak, p.at_⟩ (topI s.st) := by unfold memPut; rw [if_pos hd, if_pos ha, et]
  rw [eg] at hmo'
  rw [next3 ho]
  refine ⟨rfl, ⟨x', y', z', lo', hi2, h, ?_, hmo', h6, by omega, by omega, hold_take h4 _⟩, o⟩
  have e1 : (((s.st.take (s.st.length - 1)).length : Nat) : Int) = (k : Int) := by rw [List.length_take]; omega
  have e2 : (((s.pc + 1 : Nat)) : Int) = (s.pc : Int) + 1 := by omega
  rw [e1, e2]
  exact m

theorem mac4 (hv : MacS A w B s.d s.st s.f ((s.pc : Int) + 1)) (hp3 : 3 ≤ p.n) (hp9 : p.n ≤ 9) (ho : p.op = 4) (hn : 2 ≤ s.st.length) (hk : s.st.length ≤ 12) (hB : B < w.heap.size) (hI : I < w.heap.size) (hIB : I ≠ B) (hi : CellI w I 0 p) :
    Calls Tryz.prog 65 #[.pointer (some ⟨B, 0, none⟩), .pointer (some ⟨I, 0, none⟩)] w fun e w' => e = .returned .nilIface ∧ MacS A w' B (nextC p s).d (nextC p s).st (nextC p s).f ((nextC p s).pc : Int) ∧ Out B (B + 1) w w' := by
  obtain ⟨x, y, z, lo, hi', h, hm, hmo, h1, h2, h3, h4⟩ := hv
  obtain ⟨k, hk'⟩ : ∃ k, s.st.length = k + 2 := ⟨s.st.length - 2, by omega⟩
  have hc : ((s.st.length : Nat) : Int) = (k : Int) + 1 + 1 := by omega
  rw [hc] at hm
  refine (step4_any w B I x y z s.f h k _ p hm (by omega) hp3 hp9 hB hI hIB hi).mono ?_
  rintro e w' ⟨rfl, m, o⟩
  have et : h (k + 1) = topI s.st := by unfold topI; rw [show s.st.length - 1 = k + 1 by omega]; exact hold_at h4 (by omega)
  have es : h k = sndI s.st := by unfold sndI; rw [show s.st.length - 2 = k by omega]; exact hold_at h4 (by omega)
  rw [et, es] at m
  rw [next4 ho]
  have hl : (s.st.take (s.st.length - 2)).length = k := by rw [List.length_take]; omega
  have hh := hold_push (hold_take h4 (s.st.length - 2)) (twoZ p.n (sndI s.st) (topI s.st))
  rw [hl] at hh
  refine ⟨rfl, ⟨x, y, z, lo, hi', _, ?_, hmo.out o h1 (by omega), Nat.le_trans h1 o.size, h2, h3, hh⟩, o⟩
  have e1 : (((s.st.take (s.st.length - 2) ++ [twoZ p.n (sndI s.st) (topI s.st)]).length : Nat) : Int) = (k : Int) + 1 := by rw [List.length_append, hl]; simp
  have e2 : (((s.pc + 1 : Nat)) : Int) = (s.pc : Int) + 1 := by omega
  rw [e1, e2]
  exact m

theorem mac5 (hv : MacS A w B s.d s.st s.f ((s.pc : Int) + 1)) (ho : p.op = 5) (hn : 1 ≤ s.st.length) (hk : s.st.length ≤ 12) (hB : B < w.heap.size) :
    Calls Tryz.prog 67 #[.pointer (some ⟨B, 0, none⟩)] w fun e w' => e = .returned .nilIface ∧ MacS A w' B (nextC p s).d (nextC p s).st (nextC p s).f ((nextC p s).pc : Int) ∧ Out B (B + 1) w w' := by
  obtain ⟨x, y, z, lo, hi', h, hm, hmo, h1, h2, h3, h4⟩ := hv
  obtain ⟨k, hk'⟩ : ∃ k, s.st.length = k + 1 := ⟨s.st.length - 1, by omega⟩
  have hc : ((s.st.length : Nat) : Int) = (k : Int) + 1 := by omega
  rw [hc] at hm
  refine (step5_any w B x y z s.f h k _ hm (by omega) hB).mono ?_
  rintro e w' ⟨rfl, m, o⟩
  have et : h k = topI s.st := by unfold topI; rw [hk', Nat.add_sub_cancel]; exact hold_at h4 (by omega)
  rw [et] at m
  rw [next5 ho]
  have hl : (s.st.take (s.st.length - 1)).length = k := by rw [List.length_take]; omega
  have hh := hold_push (hold_take h4 (s.st.length - 1)) (isZ (!(topI s.st != 0)))
  rw [hl] at hh
  refine ⟨rfl, ⟨x, y, z, lo, hi', _, ?_, hmo.out o h1 (by omega), Nat.le_trans h1 o.size, h2, h3, hh⟩, o⟩
  have e1 : (((s.st.take (s.st.length - 1) ++ [isZ (!(topI s.st != 0))]).length : Nat) : Int) = (k : Int) + 1 := by rw [List.length_append, hl]; simp
  have e2 : (((s.pc + 1 : Nat)) : Int) = (s.pc : Int) + 1 := by omega
  rw [e1, e2]
  exact m

theorem mac6 (hv : MacS A w B s.d s.st s.f ((s.pc : Int) + 1)) (hp0 : 0 ≤ p.n) (ho : p.op = 6) (hn : 1 ≤ s.st.length) (hk : s.st.length ≤ 12) (hB : B < w.heap.size) (hI : I < w.heap.size) (hIB : I ≠ B) (hi : CellI w I 0 p) :
    Calls Tryz.prog 70 #[.pointer (some ⟨B, 0, none⟩), .pointer (some ⟨I, 0, none⟩)] w fun e w' => e = .returned .nilIface ∧ MacS A w' B (nextC p s).d (nextC p s).st (nextC p s).f ((nextC p s).pc : Int) ∧ Out B (B + 1) w w' := by
  obtain ⟨x, y, z, lo, hi', h, hm, hmo, h1, h2, h3, h4⟩ := hv
  obtain ⟨k, hk'⟩ : ∃ k, s.st.length = k + 1 := ⟨s.st.length - 1, by omega⟩
  have hc : ((s.st.length : Nat) : Int) = (k : Int) + 1 := by omega
  rw [hc] at hm
  refine (step6_any w B I x y z s.f h k _ p hm (by omega) hB hI hIB hi).mono ?_
  rintro e w' ⟨rfl, m, o⟩
  have et : h k = topI s.st := by unfold topI; rw [hk', Nat.add_sub_cancel]; exact hold_at h4 (by omega)
  rw [et] at m
  rw [next6 ho]
  refine ⟨rfl, ⟨x, y, z, lo, hi', h, ?_, hmo.out o h1 (by omega), Nat.le_trans h1 o.size, h2, h3, hold_take h4 _⟩, o⟩
  have e1 : (((s.st.take (s.st.length - 1)).length : Nat) : Int) = (k : Int) := by rw [List.length_take]; omega
  have e2 : ((if topI s.st != 0 then s.pc + 1 else p.n.toNat : Nat) : Int) = if topI s.st != 0 then (s.pc : Int) + 1 else p.n := by split <;> omega
  simp only
  rw [e1, e2]
  exact m

theorem mac7 (hv : MacS A w B s.d s.st s.f ((s.pc : Int) + 1)) (hp0 : 0 ≤ p.n) (ho : p.op = 7) (hB : B < w.heap.size) (hI : I < w.heap.size) (hIB : I ≠ B) (hi : CellI w I 0 p) :
    Calls Tryz.prog 71 #[.pointer (some ⟨B, 0, none⟩), .pointer (some ⟨I, 0, none⟩)] w fun e w' => e = .returned .nilIface ∧ MacS A w' B (nextC p s).d (nextC p s).st (nextC p s).f ((nextC p s).pc : Int) ∧ Out B (B + 1) w w' := by
  obtain ⟨x, y, z, lo, hi', h, hm, hmo, h1, h2, h3, h4⟩ := hv
  refine (step7_any w B I x y z s.f h s.st.length _ p hm hB hI hIB hi).mono ?_
  rintro e w' ⟨rfl, m, o⟩
  rw [next7 ho]
  refine ⟨rfl, ⟨x, y, z, lo, hi', h, ?_, hmo.out o h1 (by omega), Nat.le_trans h1 o.size, h2, h3, h4⟩, o⟩
  have e2 : ((p.n.toNat : Nat) : Int) = p.n := by omega
  simp only
  rw [e2]
  exact m

theorem mac8 (f : Nat) (hf : s.f = f + 1) (hf1 : f ≤ 100) (hv : MacS A w B s.d s.st s.f ((s.pc : Int) + 1)) (hp0 : 0 ≤ p.n) (ho : p.op = 8) (hB : B < w.heap.size) (hI : I < w.heap.size) (hIB : I ≠ B) (hi : CellI w I 0 p) :
    Calls Tryz.prog 72 #[.pointer (some ⟨B, 0, none⟩), .pointer (some ⟨I, 0, none⟩)] w fun e w' => e = .returned .nilIface ∧ MacS A w' B (nextC p s).d (nextC p s).st (nextC p s).f ((nextC p s).pc : Int) ∧ Out B (B + 1) w w' := by
  obtain ⟨x, y, z, lo, hi', h, hm, hmo, h1, h2, h3, h4⟩ := hv
  have hc : ((s.f : Nat) : Int) = (f : Int) + 1 := by omega
  rw [hc] at hm
  refine (step8_some w B I x y z h s.st.length _ p f hf1 hm hB hI hIB hi).mono ?_
  rintro e w' ⟨rfl, m, o⟩
  rw [next8 ho]
  refine ⟨rfl, ⟨x, y, z, lo, hi', h, ?_, hmo.out o h1 (by omega), Nat.le_trans h1 o.size, h2, h3, h4⟩, o⟩
  have e2 : ((p.n.toNat : Nat) : Int) = p.n := by omega
  have e3 : ((s.f - 1 : Nat) : Int) = (f : Int) := by omega
  simp only
  rw [e2, e3]
  exact m

theorem mac8z (hf : s.f = 0) (hv : MacS A w B s.d s.st s.f ((s.pc : Int) + 1)) (ty : TypeId) (v : Value) (hG : w.cell? ⟨0, 0, none⟩ = some (.iface ty v)) (hGB : 0 ≠ B) (ho : p.op = 8) (hB : B < w.heap.size) (hI : I < w.heap.size) (hIB : I ≠ B) (hi : CellI w I 0 p) :
    Calls Tryz.prog 72 #[.pointer (some ⟨B, 0, none⟩), .pointer (some ⟨I, 0, none⟩)] w fun e w' => e = .returned (.iface ty v) ∧ MacS A w' B s.d s.st 0 p.n ∧ Out B (B + 1) w w' := by
  obtain ⟨x, y, z, lo, hi', h, hm, hmo, h1, h2, h3, h4⟩ := hv
  rw [hf] at hm
  refine (step8_zero w B I x y z h s.st.length _ p ty v hG hGB hm hB hI hIB hi).mono ?_
  rintro e w' ⟨rfl, m, o⟩
  exact ⟨rfl, ⟨x, y, z, lo, hi', h, m, hmo.out o h1 (by omega), Nat.le_trans h1 o.size, h2, h3, h4⟩, o⟩
end Go.Proofs.YtdhpbiplkjpiiaaGreatDoor
