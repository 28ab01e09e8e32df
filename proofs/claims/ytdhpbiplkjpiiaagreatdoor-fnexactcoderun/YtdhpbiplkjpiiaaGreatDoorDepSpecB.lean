/-
  The model's l5Depths: how many numbers are held ahead of each place. (Written by our generator gen_depspec.py.)
-/
import Derived.Test.YtdhpbiplkjpiiaaGreatDoorDepSpecA
namespace Go.Proofs.YtdhpbiplkjpiiaaGreatDoor
open Go.ChangeShapes Go.WideShapes Go.ChangeAt Go.RowKit
set_option linter.unusedVariables false
set_option maxRecDepth 100000

/-- A row of numbers, one for each place up to n, in a block of its own. -/
structure TabV (w : World) (B n : Nat) (D : Nat → Int) : Prop where
  c : ∀ j, j ≤ n → w.cell? ⟨B, j, none⟩ = some (.int .i64 (D j))
  f : ∀ o, w.frozen? ⟨B, o, none⟩ = false

theorem TabV.at_ {u u' : World} {B n : Nat} {D : Nat → Int} (h : TabV u B n D) (hk : u'.heap[B]? = u.heap[B]?) : TabV u' B n D :=
  ⟨fun j hj => by rw [World.cell?_of_block (w := u) hk]; exact h.c j hj, fun o => by rw [World.frozen?_of_block (w := u) hk]; exact h.f o⟩

theorem tab_store {u : World} {B n k : Nat} {D : Nat → Int} (h : TabV u B n D) (hk : k ≤ n) (c : Int) :
    ∃ u', u.setCell ⟨B, k, none⟩ (.int .i64 c) = u' ∧ TabV u' B n (upd D k c) ∧ Out B (B + 1) u u' := by
  refine ⟨_, rfl, ⟨fun j hj => ?_, fun o => by rw [World.frozen?_setCell]; exact h.f o⟩, ⟨rfl, rfl, rfl, by simp [World.setCell], fun q hq ho => Below.heap_setCell _ _ _ _ (by show q ≠ B; omega)⟩⟩
  rw [upd_eq]
  by_cases e : j = k
  · subst e
    rw [World.cell?_setCell_same _ _ _ (h.c j hj), if_pos rfl]
  · rw [cell_set_other _ (.inr (by omega)), if_neg e]; exact h.c j hj

/-- What l5Depths answers. -/
def DepR (w w' : World) (n : Nat) (r : Option (Nat → Int)) (v : Value) : Prop :=
  (r = none ∧ v = .slice none 0 0) ∨ ∃ D B, r = some D ∧ v = .slice (some ⟨B, 0, none⟩) (n + 1) (n + 1) ∧ w.heap.size ≤ B ∧ B < w'.heap.size ∧ TabV w' B n D

theorem below_outT {w u u' : World} {B : Nat} (h : Below w.heap.size w u) (ho : Out B (B + 1) u u') (hB : w.heap.size ≤ B) : Below w.heap.size w u' :=
  ⟨ho.os.trans h.os, ho.tape.trans h.tape, ho.output.trans h.output, Nat.le_trans h.size ho.size, fun k hk => by rw [ho.block k (Nat.lt_of_lt_of_le hk h.size) (.inl (by omega))]; exact h.block k hk⟩

theorem depthsT_drop {j : Nat} {D : Nat → Int} {ps : List InsD} {p : InsD} (hp : ps[j]? = some p) :
    depthsT j D (ps.drop j) = match stepTC D j p with | none => none | some D' => depthsT (j + 1) D' (ps.drop (j + 1)) := by
  have hj : j < ps.length := (List.getElem?_eq_some_iff.mp hp).1
  rw [List.drop_eq_getElem_cons hj, depthsT]
  have : ps[j] = p := by rw [List.getElem?_eq_getElem hj] at hp; exact Option.some.inj hp
  rw [this]
  cases stepTC D j p <;> rfl

/-- What holds at the head of a round. -/
structure TabL (w : World) (B : Nat) (ps : List InsD) (j : Nat) (D : Nat → Int) (wr : World) : Prop where
  below : Below w.heap.size w wr
  tab : TabV wr B ps.length D
  lt : B < wr.heap.size
  le : w.heap.size ≤ B
  run : depthsT 0 startT ps = depthsT j D (ps.drop j)
  bd : ∀ k, -1 ≤ D k ∧ D k ≤ 12

theorem upd_bd {D : Nat → Int} (h : ∀ k, -1 ≤ D k ∧ D k ≤ 12) {c : Int} (hc : -1 ≤ c ∧ c ≤ 12) (j : Nat) : ∀ k, -1 ≤ upd D j c k ∧ upd D j c k ≤ 12 := fun k => by
  rw [upd_eq]; split
  · exact hc
  · exact h k

theorem info_int5 : (Tryz.prog.info? 3).map (fun i => (i.zero, i.size, i.bytes)) = some (some (.int .i64 0), 1, 8) := by kernel_rfl

def fillT (k : Nat) : Nat → Int := fun j => if j = 0 then 0 else if j < k then -1 else 0

theorem fill_one : (fun _ : Nat => (0 : Int)) = fillT 1 := by
  funext j
  unfold fillT
  split
  · rfl
  · rw [if_neg (by omega)]
theorem fill_succ {j : Nat} (h : 1 ≤ j) : fillT (j + 1) = upd (fillT j) j (-1) := by
  funext k
  rw [upd_eq]
  unfold fillT
  by_cases e : k = j
  · rw [if_pos e, if_neg (by omega), if_pos (by omega)]
  · rw [if_neg e]
    by_cases e0 : k = 0
    · rw [if_pos e0, if_pos e0]
    · rw [if_neg e0, if_neg e0]
      by_cases e1 : k < j
      · rw [if_pos e1, if_pos (by omega)]
      · rw [if_neg e1, if_neg (by omega)]
theorem fill_all {n k : Nat} (h : k ≤ n) : fillT (n + 1) k = startT k := by
  unfold fillT startT
  by_cases e0 : k = 0
  · rw [if_pos e0, if_pos e0]
  · rw [if_neg e0, if_neg e0, if_pos (by omega)]
theorem start_bd (k : Nat) : -1 ≤ startT k ∧ startT k ≤ 12 := by unfold startT; split <;> omega
theorem fit_to {p : InsD} {i n : Nat} (hi : i < n) (hf : fitI p i n = true) (h1 : goesI p = true) : p.n.toNat ≤ n := by
  unfold fitI at hf
  unfold goesI at h1
  simp only [Bool.or_eq_true, beq_iff_eq] at h1
  rw [if_neg (by omega), if_neg (by omega), if_neg (by omega), if_neg (by omega), if_neg (by omega)] at hf
  by_cases h8 : p.op = 8
  · rw [if_neg (by omega), if_pos h8] at hf
    simp only [Bool.and_eq_true, decide_eq_true_eq] at hf
    omega
  · rw [if_pos (by omega)] at hf
    simp only [Bool.and_eq_true, decide_eq_true_eq] at hf
    omega
theorem fit_pos {p : InsD} {i n : Nat} (hf : fitI p i n = true) (h1 : goesI p = true) : 0 ≤ p.n := by
  unfold fitI at hf
  unfold goesI at h1
  simp only [Bool.or_eq_true, beq_iff_eq] at h1
  rw [if_neg (by omega), if_neg (by omega), if_neg (by omega), if_neg (by omega), if_neg (by omega)] at hf
  by_cases h8 : p.op = 8
  · rw [if_neg (by omega), if_pos h8] at hf
    simp only [Bool.and_eq_true, decide_eq_true_eq] at hf
    omega
  · rw [if_pos (by omega)] at hf
    simp only [Bool.and_eq_true, decide_eq_true_eq] at hf
    omega
theorem step_few {D : Nat → Int} {i : Nat} {p : InsD} (h : D i < needI p) : stepTC D i p = none := by unfold stepTC; rw [if_pos (.inl h)]
theorem step_many {D : Nat → Int} {i : Nat} {p : InsD} (h : 12 < D i + byI p) : stepTC D i p = none := by unfold stepTC; rw [if_pos (.inr h)]
theorem stepT_mid {D : Nat → Int} {i : Nat} {p : InsD} (h1 : ¬ D i < needI p) (h2 : ¬ 12 < D i + byI p) : stepTC D i p = if badT D i (toI p i) (D i + byI p) = true then none else if fallsI p = false then some (upd D (toI p i) (D i + byI p)) else if 0 ≤ upd D (toI p i) (D i + byI p) (i + 1) ∧ upd D (toI p i) (D i + byI p) (i + 1) ≠ D i + byI p then none else some (upd (upd D (toI p i) (D i + byI p)) (i + 1) (D i + byI p)) := by
  unfold stepTC; rw [if_neg (by omega)]
theorem fit_bk {p : InsD} {i n : Nat} (h : fitI p i n = true) (hg : p.op = 8) : p.n.toNat < i ∧ 0 ≤ p.n := by
  unfold fitI at h
  rw [if_neg (by omega), if_neg (by omega), if_neg (by omega), if_neg (by omega), if_neg (by omega), if_neg (by omega), if_pos hg] at h
  simp only [Bool.and_eq_true, decide_eq_true_eq] at h
  omega
theorem fit_jp {p : InsD} {i n : Nat} (h : fitI p i n = true) (hg : goesI p = true) (h8 : ¬ p.op = 8) : i < p.n.toNat := by
  unfold fitI at h
  unfold goesI at hg
  simp only [Bool.or_eq_true, beq_iff_eq] at hg
  rw [if_neg (by omega), if_neg (by omega), if_neg (by omega), if_neg (by omega), if_neg (by omega), if_pos (by omega)] at h
  simp only [Bool.and_eq_true, decide_eq_true_eq] at h
  omega
theorem falls_of {p : InsD} (h : goesI p = false) : fallsI p = true := by
  unfold goesI at h
  simp only [Bool.or_eq_false_iff, beq_eq_false_iff_ne] at h
  unfold fallsI
  simp only [Bool.and_eq_true, bne_iff_ne]
  omega
theorem ops_of {p : InsD} (h : goesI p = false) : (p.op == 7) = false ∧ (p.op == 8) = false := by
  unfold goesI at h
  simp only [Bool.or_eq_false_iff] at h
  exact ⟨h.2.1, h.2.2⟩

set_option maxHeartbeats 16000000 in
theorem depths_any (w : World) (lo hi : Nat) (v : Value) (ps : List InsD) (hN : NR w lo hi v ps) (hhi : hi ≤ w.heap.size) (h400 : ps.length ≤ 400) (hfit : fitsT ps.length 0 ps = true) :
    Calls Tryz.prog 34 #[v] w fun e w' => ∃ v', e = .returned v' ∧ DepR w w' ps.length (depthsT 0 startT ps) v' ∧ Below w.heap.size w w' := by
  obtain ⟨ad, cap, rfl, h1, h2⟩ := hN.shape
  have HN : Hid (NR w lo hi (.slice ad ps.length cap) ps ∧ fitsT ps.length 0 ps = true) := ⟨hN, hfit⟩
  obtain ⟨R, hR⟩ : ∃ R, depthsT 0 startT ps = R := ⟨_, rfl⟩
  rw [hR]
  have HR : Hid (depthsT 0 startT ps = R) := hR
  obtain ⟨i0, hi0, hz0, hz1, hz2⟩ := info_parts info_int5
  clear hN hR hfit h1 h2
  go_enter Tryz.func34, Tryz.ntmps34
  have ec : ((ps.length + 1 : Nat) : Int) = (ps.length : Int) + 1 := by omega
  go_wp2_with (at_make; refine wpList_make_full _ rfl _ _ 22 rfl w.heap.size 3 i0 (.int .i64 0) 1 Tryz.underlying22 hi0 hz0 hz1 .i64 .i64 _ _ (ps.length + 1) rfl rfl ec.symm ec.symm (by rw [hz2]; omega) (by unfold maxLen; omega) (Nat.le_refl _) ?_; intro w1 hown hgrow)
  obtain ⟨B, hB⟩ : ∃ B, w.heap.size = B := ⟨_, rfl⟩
  have HB : Hid (w.heap.size = B) := hB
  have hI : Below w.heap.size w w1 ∧ TabV w1 w.heap.size ps.length (fun _ => 0) ∧ w.heap.size < w1.heap.size := by
    refine ⟨(Below.refl _ _).grown hgrow (Nat.le_refl _) (fun k h => by cases h), ⟨fun j hj => ?_, fun o => hown.frozenAt o⟩, hown.2.elim (fun h => by simp at h) fun ⟨g, cap, cur, hv, hg, hh, _⟩ => ?_⟩
    · rw [hown.cellAt j (by omega)]
      show (madeCells #[Value.int .i64 0] _).toList[j]? = _
      rw [toList_madeCells_one, List.getElem?_replicate, if_pos (by omega)]
    · simp only [Value.slice.injEq, Option.some.injEq, Addr.mk.injEq, and_true, true_and] at hv
      obtain ⟨rfl, _⟩ := hv
      exact (Array.getElem?_eq_some_iff.mp hh).1
  rw [hB] at hI ⊢
  clear hown hgrow hz0 hz1 hz2 hi0 hB
  go_loopw [4] (fun i wr => ∃ j : Nat, 1 ≤ j ∧ j ≤ ps.length + 1 ∧ i = .int .i64 j ∧ Below w.heap.size w wr ∧ TabV wr B ps.length (fillT j) ∧ B < wr.heap.size) (fun i _ => ps.length + 1 - (intOf i).toNat)
  case atStart => exact ⟨1, Nat.le_refl _, by omega, rfl, by rw [HB.out]; exact hI.1, fill_one ▸ hI.2.1, hI.2.2⟩
  case round =>
    clear hI
    obtain ⟨j, hj1, hj, rfl, hb, hT, hlt0⟩ := hrel
    by_cases hlt : j ≤ ps.length
    · obtain ⟨u, hu, T1, O1⟩ := tab_store hT hlt (-1)
      rw [← fill_succ hj1] at T1
      have HU : Hid (_ = u) := hu
      have HN' : Hid (Below w.heap.size w u ∧ TabV u B ps.length (fillT (j + 1)) ∧ B < u.heap.size) := ⟨below_outT hb O1 (by rw [HB.out]; exact Nat.le_refl _), T1, Nat.lt_of_lt_of_le hlt0 O1.size⟩
      have c1 := hT.c j hlt
      have f1 := hT.f j
      clear hu T1 O1 hT hb hlt0
      go_wp2
      rw [HU.out]
      go_roundw
      case rel => exact ⟨j + 1, by omega, by omega, by go_num, HN'.out.1, HN'.out.2.1, HN'.out.2.2⟩
      case measure => simp [intOf]; omega
    · obtain rfl : j = ps.length + 1 := by omega
      have HL : Hid (TabL w B ps 0 startT wr) := ⟨hb, ⟨fun k hk => by rw [← fill_all hk]; exact hT.c k hk, hT.f⟩, hlt0, by rw [HB.out]; exact Nat.le_refl _, rfl, start_bd⟩
      clear hT hb hlt0 hlt
      go_wp2_with fail
      clear hj hj1
      go_loopw [5] (fun i wr => ∃ (j : Nat) (D : Nat → Int), j ≤ ps.length ∧ i = .int .i64 j ∧ TabL w B ps j D wr) (fun i _ => ps.length - (intOf i).toNat)
      case atStart => exact ⟨0, _, Nat.zero_le _, rfl, HL.out⟩
      case round =>
        clear HL
        obtain ⟨j, D, hj, rfl, hL⟩ := hrel
        have HL : Hid (TabL w B ps j D wr) := hL
        clear hL
        by_cases hlt : j < ps.length
        · obtain ⟨p, hp⟩ : ∃ p, ps[j]? = some p := ⟨ps[j], List.getElem?_eq_getElem hlt⟩
          obtain ⟨b, off, cap', hv, hb1, hb2, h5⟩ := HN.out.1.at_ hp
          simp only [Value.slice.injEq, true_and] at hv
          obtain ⟨rfl, rfl⟩ := hv
          have hrun := HR.out
          rw [HL.out.run, depthsT_drop hp] at hrun
          have HRun : Hid ((match stepTC D j p with | none => none | some D' => depthsT (j + 1) D' (ps.drop (j + 1))) = R) := hrun
          have hfp : fitI p j ps.length = true := by have := fitsT_at _ ps 0 HN.out.2 j p hp; rwa [Nat.zero_add] at this
          have HF : Hid (fitI p j ps.length = true) := hfp
          have C0 := h5.kept (HL.out.below.block b (by omega))
          have hDj := HL.out.bd j
          have hb0 := byI_bd p
          have hn0 := needI_bd p
          have hbn := by_need p
          have hti : toI p j ≤ ps.length := by
            unfold toI
            split
            · rename_i hg
              exact fit_to hlt hfp hg
            · omega
          clear hp h5 hrun hfp
          have hTu := turn_any wr p
          unfold InsD.val at hTu
          obtain ⟨c0, c1, c2, c3⟩ := id C0
          have t0 := HL.out.tab.c j (by omega)
          go_wp2_with fail
          refine hTu.mono ?_
          rintro e1 u1 ⟨rfl, g1⟩
          have s1 := g1.size
          have G1 : Below w.heap.size w u1 := HL.out.below.trans (g1.mono HL.out.below.size)
          have T1 := HL.out.tab.at_ (g1.block B HL.out.lt)
          have C1 := C0.below g1 (by have := HL.out.below.size; omega)
          have hB1 : B < u1.heap.size := Nat.lt_of_lt_of_le HL.out.lt s1
          have t1 := T1.c j (by omega)
          clear hTu c0 c1 c2 c3 t0 C0 g1 s1
          generalize hby : byI p = by' at *
          generalize hne : needI p = ne' at *
          by_cases q1 : D j < ne'
          · have HRR : Hid (R = none) := by show R = none; have := HRun.out; rw [step_few (by rw [hne]; exact q1)] at this; exact this.symm
            clear C1 T1 hby hne
            go_wp2
            go_ret
            exact ⟨_, rfl, .inl ⟨HRR.out, rfl⟩, G1⟩
          by_cases q2 : 12 < D j + by'
          · have HRR : Hid (R = none) := by show R = none; have := HRun.out; rw [step_many (by rw [hby]; exact q2)] at this; exact this.symm
            clear C1 T1 hby hne
            go_wp2
            go_ret
            exact ⟨_, rfl, .inl ⟨HRR.out, rfl⟩, G1⟩
          obtain ⟨c, hc⟩ : ∃ c, D j + by' = c := ⟨_, rfl⟩
          have hcb : 0 ≤ c ∧ c ≤ 12 := by omega
          have hst := stepT_mid (D := D) (i := j) (p := p) (by rw [hne]; omega) (by rw [hby]; omega)
          rw [hby, hc] at hst
          have HS : Hid (stepTC D j p = if badT D j (toI p j) c = true then none else if fallsI p = false then some (upd D (toI p j) c) else if 0 ≤ upd D (toI p j) c (j + 1) ∧ upd D (toI p j) c (j + 1) ≠ c then none else some (upd (upd D (toI p j) c) (j + 1) c)) := hst
          clear hst hby hne
          have hJu := jumps_any u1 p
          unfold InsD.val at hJu
          obtain ⟨c0, c1, c2, c3⟩ := id C1
          go_wp2_with fail
          refine hJu.mono ?_
          rintro e2 u2 ⟨rfl, g2⟩
          have s2 := g2.size
          have G2 : Below w.heap.size w u2 := G1.trans (g2.mono G1.size)
          have T2 := T1.at_ (g2.block B hB1)
          have C2 := C1.below g2 (by have := G1.size; omega)
          have hB2 : B < u2.heap.size := Nat.lt_of_lt_of_le hB1 s2
          clear hJu c0 c1 c2 c3 C1 T1 g2 s2 hB1 G1 t1 hc
          obtain ⟨c0, c1, c2, c3⟩ := id C2
          clear c2 c3
          have bad1 : ∀ t : Nat, badT D j t c = (decide (t ≤ j) && (D t != c) || (decide (j < t) && (decide (0 ≤ D t) && (D t != c)))) := fun t => rfl
          cases hg : goesI p with
          | false =>
            have hto : toI p j = j + 1 := by unfold toI; rw [hg]; rfl
            have hfl : fallsI p = true := falls_of hg
            rw [hto, hfl] at HS
            have o7 : (p.op == 7) = false := (ops_of hg).1
            have o8 : (p.op == 8) = false := (ops_of hg).2
            have t2 : u2.cell? ⟨B, j + 1, none⟩ = some (.int .i64 (D (j + 1))) := T2.c (j + 1) (by omega)
            have hbd := HL.out.bd (j + 1)
            by_cases q3 : 0 ≤ D (j + 1) ∧ D (j + 1) ≠ c
            · have HRR : Hid (R = none) := by show R = none; have := HRun.out; rw [HS.out, if_pos (by rw [bad1]; simp; omega)] at this; exact this.symm
              have k1 : 0 ≤ D (j + 1) := q3.1
              have k2 : (D (j + 1) != c) = true := by simpa using q3.2
              clear q3 bad1 T2 C2 hbd
              go_wp2
              go_ret
              exact ⟨_, rfl, .inl ⟨HRR.out, rfl⟩, G2⟩
            · obtain ⟨u3, hu3, T3, O3⟩ := tab_store T2 (show j + 1 ≤ ps.length by omega) c
              obtain ⟨u4, hu4, T4, O4⟩ := tab_store T3 (show j + 1 ≤ ps.length by omega) c
              have HU3 : Hid (_ = u3) := hu3
              have HU4 : Hid (_ = u4) := hu4
              have hD' : stepTC D j p = some (upd (upd D (j + 1) c) (j + 1) c) := by
                rw [HS.out, if_neg (by rw [bad1]; simp; omega), if_neg (by decide), if_neg (by rw [upd_self]; omega)]
              have HN' : Hid (TabL w B ps (j + 1) (upd (upd D (j + 1) c) (j + 1) c) u4) := ⟨below_outT (below_outT G2 O3 HL.out.le) O4 HL.out.le, T4, by have := O3.size; have := O4.size; omega, HL.out.le, by rw [HR.out, ← HRun.out, hD'], upd_bd (upd_bd HL.out.bd (by omega) _) (by omega) _⟩
              have t3 := T3.c (j + 1) (by omega)
              rw [upd_self] at t3
              have f3 := T3.f (j + 1)
              have f2 := T2.f (j + 1)
              have hne : b ≠ B := by have := HL.out.le; omega
              clear T2 C2 bad1 hbd hu3 hu4 T3 T4 O3 O4 f3 t3 hD'
              by_cases q4 : 0 ≤ D (j + 1)
              · have k2 : (D (j + 1) != c) = false := by simp; omega
                clear q3
                go_wp2
                rw [HU3.out, HU4.out]
                go_roundw
                case rel => (repeat apply Exists.intro); exact ⟨⟨j + 1, _, by omega, by go_num, HN'.out⟩, rfl⟩
                case measure => simp [intOf]; omega
              · clear q3
                go_wp2
                rw [HU3.out, HU4.out]
                go_roundw
                case rel => (repeat apply Exists.intro); exact ⟨⟨j + 1, _, by omega, by go_num, HN'.out⟩, rfl⟩
                case measure => simp [intOf]; omega
          | true =>
            obtain ⟨t, ht⟩ : ∃ t : Nat, p.n = t := ⟨p.n.toNat, by have := fit_pos HF.out hg; omega⟩
            have hto : toI p j = t := by unfold toI; rw [hg, ht]; rfl
            rw [hto] at HS hti
            rw [ht] at c1
            have htn := hti
            have t2 : u2.cell? ⟨B, t, none⟩ = some (.int .i64 (D t)) := T2.c t htn
            have hne : b ≠ B := by have := HL.out.le; omega
            have hbt := HL.out.bd t
            have hnn : t < ps.length + 1 := by omega
            by_cases h8 : p.op = 8
            · have htj : t ≤ j := by have := (fit_bk HF.out h8).1; rw [ht] at this; omega
              have hfl : fallsI p = false := by unfold fallsI; rw [show (p.op != 8) = false by simp [h8], Bool.and_false]
              have o7 : (p.op == 7) = false := by simp [h8]
              have o8 : (p.op == 8) = true := by simp [h8]
              rw [hfl] at HS
              cases q4 : (D t != c) with
              | true =>
                have HRR : Hid (R = none) := by show R = none; have := HRun.out; rw [HS.out, if_pos (by rw [bad1]; simp [q4, htj])] at this; exact this.symm
                clear T2 C2 bad1
                go_wp2
                go_ret
                exact ⟨_, rfl, .inl ⟨HRR.out, rfl⟩, G2⟩
              | false =>
                have hD' : stepTC D j p = some (upd D t c) := by rw [HS.out, if_neg (by rw [bad1]; simp [q4]), if_pos rfl]
                obtain ⟨u3, hu3, T3, O3⟩ := tab_store T2 htn c
                have HU3 : Hid (_ = u3) := hu3
                have HN' : Hid (TabL w B ps (j + 1) (upd D t c) u3) := ⟨below_outT G2 O3 HL.out.le, T3, by have := O3.size; omega, HL.out.le, by rw [HR.out, ← HRun.out, hD'], upd_bd HL.out.bd (by omega) _⟩
                have ft := T2.f t
                clear T2 C2 bad1 hu3 T3 O3
                go_wp2
                rw [HU3.out]
                go_roundw
                case rel => (repeat apply Exists.intro); exact ⟨⟨j + 1, _, by omega, by go_num, HN'.out⟩, rfl⟩
                case measure => simp [intOf]; omega
            · have htj : j < t := by have := fit_jp HF.out hg h8; rw [ht] at this; omega
              by_cases h7 : p.op = 7
              · have hfl : fallsI p = false := by unfold fallsI; rw [show (p.op != 7) = false by simp [h7]]; rfl
                have o7 : (p.op == 7) = true := by simp [h7]
                rw [hfl] at HS
                by_cases q3 : 0 ≤ D t
                · cases q4 : (D t != c) with
                  | true =>
                    have HRR : Hid (R = none) := by show R = none; have := HRun.out; rw [HS.out, if_pos (by rw [bad1]; simp [q4, q3, htj])] at this; exact this.symm
                    clear T2 C2 bad1
                    go_wp2
                    go_ret
                    exact ⟨_, rfl, .inl ⟨HRR.out, rfl⟩, G2⟩
                  | false =>
                    have hD' : stepTC D j p = some (upd D t c) := by rw [HS.out, if_neg (by rw [bad1]; simp [q4]), if_pos rfl]
                    obtain ⟨u3, hu3, T3, O3⟩ := tab_store T2 htn c
                    have HU3 : Hid (_ = u3) := hu3
                    have HN' : Hid (TabL w B ps (j + 1) (upd D t c) u3) := ⟨below_outT G2 O3 HL.out.le, T3, by have := O3.size; omega, HL.out.le, by rw [HR.out, ← HRun.out, hD'], upd_bd HL.out.bd (by omega) _⟩
                    have ft := T2.f t
                    clear T2 C2 bad1 hu3 T3 O3
                    go_wp2
                    rw [HU3.out]
                    go_roundw
                    case rel => (repeat apply Exists.intro); exact ⟨⟨j + 1, _, by omega, by go_num, HN'.out⟩, rfl⟩
                    case measure => simp [intOf]; omega
                · have hD' : stepTC D j p = some (upd D t c) := by rw [HS.out, if_neg (by rw [bad1]; simp [q3]; omega), if_pos rfl]
                  obtain ⟨u3, hu3, T3, O3⟩ := tab_store T2 htn c
                  have HU3 : Hid (_ = u3) := hu3
                  have HN' : Hid (TabL w B ps (j + 1) (upd D t c) u3) := ⟨below_outT G2 O3 HL.out.le, T3, by have := O3.size; omega, HL.out.le, by rw [HR.out, ← HRun.out, hD'], upd_bd HL.out.bd (by omega) _⟩
                  have ft := T2.f t
                  clear T2 C2 bad1 hu3 T3 O3
                  go_wp2
                  rw [HU3.out]
                  go_roundw
                  case rel => (repeat apply Exists.intro); exact ⟨⟨j + 1, _, by omega, by go_num, HN'.out⟩, rfl⟩
                  case measure => simp [intOf]; omega
              · have h6 : p.op = 6 := by
                  have hg' := hg
                  unfold goesI at hg'
                  simp only [Bool.or_eq_true, beq_iff_eq] at hg'
                  omega
                have hfl : fallsI p = true := by unfold fallsI; simp [h6]
                have o7 : (p.op == 7) = false := by simp [h6]
                have o8 : (p.op == 8) = false := by simp [h6]
                rw [hfl] at HS
                clear h7 h8 h6
                by_cases q3 : 0 ≤ D t
                · cases q4 : (D t != c) with
                  | true =>
                    have HRR : Hid (R = none) := by show R = none; have := HRun.out; rw [HS.out, if_pos (by rw [bad1]; simp [q4, q3, htj])] at this; exact this.symm
                    clear T2 C2 bad1
                    go_wp2
                    go_ret
                    exact ⟨_, rfl, .inl ⟨HRR.out, rfl⟩, G2⟩
                  | false =>
                    by_cases e1 : t = j + 1
                    · subst e1
                      have hD' : stepTC D j p = some (upd (upd D (j + 1) c) (j + 1) c) := by rw [HS.out, if_neg (by rw [bad1]; simp [q4]), if_neg (by decide), if_neg (by rw [upd_self]; omega)]
                      obtain ⟨u3, hu3, T3, O3⟩ := tab_store T2 (show j + 1 ≤ ps.length by omega) c
                      obtain ⟨u4, hu4, T4, O4⟩ := tab_store T3 (show j + 1 ≤ ps.length by omega) c
                      have HU3 : Hid (_ = u3) := hu3
                      have HU4 : Hid (_ = u4) := hu4
                      have HN' : Hid (TabL w B ps (j + 1) (upd (upd D (j + 1) c) (j + 1) c) u4) := ⟨below_outT (below_outT G2 O3 HL.out.le) O4 HL.out.le, T4, by have := O3.size; have := O4.size; omega, HL.out.le, by rw [HR.out, ← HRun.out, hD'], upd_bd (upd_bd HL.out.bd (by omega) _) (by omega) _⟩
                      have fj := T2.f (j + 1)
                      clear T2 C2 bad1 hu3 T3 O3 hu4 T4 O4
                      go_wp2
                      rw [HU3.out, HU4.out]
                      go_roundw
                      case rel => (repeat apply Exists.intro); exact ⟨⟨j + 1, _, by omega, by go_num, HN'.out⟩, rfl⟩
                      case measure => simp [intOf]; omega
                    · have hne : t ≠ j + 1 := e1
                      have t3 : u2.cell? ⟨B, j + 1, none⟩ = some (.int .i64 (D (j + 1))) := T2.c (j + 1) (by omega)
                      have hb3 := HL.out.bd (j + 1)
                      have hne2 : ¬ (j + 1 = t) := fun h => hne h.symm
                      by_cases q5 : 0 ≤ D (j + 1)
                      · cases q6 : (D (j + 1) != c) with
                        | true =>
                          have q6' : D (j + 1) ≠ c := by simpa using q6
                          have HRR : Hid (R = none) := by show R = none; have := HRun.out; rw [HS.out, if_neg (by rw [bad1]; simp [q4]), if_neg (by decide), upd_ne _ (by omega), if_pos ⟨q5, q6'⟩] at this; exact this.symm
                          clear q6'
                          obtain ⟨u3, hu3, T3, O3⟩ := tab_store T2 htn c
                          have HU3 : Hid (_ = u3) := hu3
                          have HG : Hid (Below w.heap.size w u3) := below_outT G2 O3 HL.out.le
                          have ft := T2.f t
                          clear T2 C2 bad1 hu3 T3 O3
                          go_wp2
                          rw [HU3.out]
                          go_ret
                          exact ⟨_, rfl, .inl ⟨HRR.out, rfl⟩, HG.out⟩
                        | false =>
                          have q6' : D (j + 1) = c := by simpa using q6
                          have hD' : stepTC D j p = some (upd (upd D t c) (j + 1) c) := by rw [HS.out, if_neg (by rw [bad1]; simp [q4]), if_neg (by decide), upd_ne _ (by omega), if_neg (by omega)]
                          clear q6'
                          obtain ⟨u3, hu3, T3, O3⟩ := tab_store T2 htn c
                          obtain ⟨u4, hu4, T4, O4⟩ := tab_store T3 (show j + 1 ≤ ps.length by omega) c
                          have HU3 : Hid (_ = u3) := hu3
                          have HU4 : Hid (_ = u4) := hu4
                          have HN' : Hid (TabL w B ps (j + 1) (upd (upd D t c) (j + 1) c) u4) := ⟨below_outT (below_outT G2 O3 HL.out.le) O4 HL.out.le, T4, by have := O3.size; have := O4.size; omega, HL.out.le, by rw [HR.out, ← HRun.out, hD'], upd_bd (upd_bd HL.out.bd (by omega) _) (by omega) _⟩
                          have ft := T2.f t
                          have fj := T2.f (j + 1)
                          clear T2 C2 bad1 hu3 T3 O3 hu4 T4 O4
                          go_wp2
                          rw [HU3.out, HU4.out]
                          go_roundw
                          case rel => (repeat apply Exists.intro); exact ⟨⟨j + 1, _, by omega, by go_num, HN'.out⟩, rfl⟩
                          case measure => simp [intOf]; omega
                      · have hD' : stepTC D j p = some (upd (upd D t c) (j + 1) c) := by rw [HS.out, if_neg (by rw [bad1]; simp [q4]), if_neg (by decide), upd_ne _ (by omega), if_neg (by omega)]
                        obtain ⟨u3, hu3, T3, O3⟩ := tab_store T2 htn c
                        obtain ⟨u4, hu4, T4, O4⟩ := tab_store T3 (show j + 1 ≤ ps.length by omega) c
                        have HU3 : Hid (_ = u3) := hu3
                        have HU4 : Hid (_ = u4) := hu4
                        have HN' : Hid (TabL w B ps (j + 1) (upd (upd D t c) (j + 1) c) u4) := ⟨below_outT (below_outT G2 O3 HL.out.le) O4 HL.out.le, T4, by have := O3.size; have := O4.size; omega, HL.out.le, by rw [HR.out, ← HRun.out, hD'], upd_bd (upd_bd HL.out.bd (by omega) _) (by omega) _⟩
                        have ft := T2.f t
                        have fj := T2.f (j + 1)
                        clear T2 C2 bad1 hu3 T3 O3 hu4 T4 O4
                        go_wp2
                        rw [HU3.out, HU4.out]
                        go_roundw
                        case rel => (repeat apply Exists.intro); exact ⟨⟨j + 1, _, by omega, by go_num, HN'.out⟩, rfl⟩
                        case measure => simp [intOf]; omega
                · by_cases e1 : t = j + 1
                  · subst e1
                    have hD' : stepTC D j p = some (upd (upd D (j + 1) c) (j + 1) c) := by rw [HS.out, if_neg (by rw [bad1]; simp [q3]; omega), if_neg (by decide), if_neg (by rw [upd_self]; omega)]
                    obtain ⟨u3, hu3, T3, O3⟩ := tab_store T2 (show j + 1 ≤ ps.length by omega) c
                    obtain ⟨u4, hu4, T4, O4⟩ := tab_store T3 (show j + 1 ≤ ps.length by omega) c
                    have HU3 : Hid (_ = u3) := hu3
                    have HU4 : Hid (_ = u4) := hu4
                    have HN' : Hid (TabL w B ps (j + 1) (upd (upd D (j + 1) c) (j + 1) c) u4) := ⟨below_outT (below_outT G2 O3 HL.out.le) O4 HL.out.le, T4, by have := O3.size; have := O4.size; omega, HL.out.le, by rw [HR.out, ← HRun.out, hD'], upd_bd (upd_bd HL.out.bd (by omega) _) (by omega) _⟩
                    have fj := T2.f (j + 1)
                    clear T2 C2 bad1 hu3 T3 O3 hu4 T4 O4
                    go_wp2
                    rw [HU3.out, HU4.out]
                    go_roundw
                    case rel => (repeat apply Exists.intro); exact ⟨⟨j + 1, _, by omega, by go_num, HN'.out⟩, rfl⟩
                    case measure => simp [intOf]; omega
                  · have hne : t ≠ j + 1 := e1
                    have t3 : u2.cell? ⟨B, j + 1, none⟩ = some (.int .i64 (D (j + 1))) := T2.c (j + 1) (by omega)
                    have hb3 := HL.out.bd (j + 1)
                    have hne2 : ¬ (j + 1 = t) := fun h => hne h.symm
                    by_cases q5 : 0 ≤ D (j + 1)
                    · cases q6 : (D (j + 1) != c) with
                      | true =>
                        have q6' : D (j + 1) ≠ c := by simpa using q6
                        have HRR : Hid (R = none) := by show R = none; have := HRun.out; rw [HS.out, if_neg (by rw [bad1]; simp [q3]; omega), if_neg (by decide), upd_ne _ (by omega), if_pos ⟨q5, q6'⟩] at this; exact this.symm
                        clear q6'
                        obtain ⟨u3, hu3, T3, O3⟩ := tab_store T2 htn c
                        have HU3 : Hid (_ = u3) := hu3
                        have HG : Hid (Below w.heap.size w u3) := below_outT G2 O3 HL.out.le
                        have ft := T2.f t
                        clear T2 C2 bad1 hu3 T3 O3
                        go_wp2
                        rw [HU3.out]
                        go_ret
                        exact ⟨_, rfl, .inl ⟨HRR.out, rfl⟩, HG.out⟩
                      | false =>
                        have q6' : D (j + 1) = c := by simpa using q6
                        have hD' : stepTC D j p = some (upd (upd D t c) (j + 1) c) := by rw [HS.out, if_neg (by rw [bad1]; simp [q3]; omega), if_neg (by decide), upd_ne _ (by omega), if_neg (by omega)]
                        clear q6'
                        obtain ⟨u3, hu3, T3, O3⟩ := tab_store T2 htn c
                        obtain ⟨u4, hu4, T4, O4⟩ := tab_store T3 (show j + 1 ≤ ps.length by omega) c
                        have HU3 : Hid (_ = u3) := hu3
                        have HU4 : Hid (_ = u4) := hu4
                        have HN' : Hid (TabL w B ps (j + 1) (upd (upd D t c) (j + 1) c) u4) := ⟨below_outT (below_outT G2 O3 HL.out.le) O4 HL.out.le, T4, by have := O3.size; have := O4.size; omega, HL.out.le, by rw [HR.out, ← HRun.out, hD'], upd_bd (upd_bd HL.out.bd (by omega) _) (by omega) _⟩
                        have ft := T2.f t
                        have fj := T2.f (j + 1)
                        clear T2 C2 bad1 hu3 T3 O3 hu4 T4 O4
                        go_wp2
                        rw [HU3.out, HU4.out]
                        go_roundw
                        case rel => (repeat apply Exists.intro); exact ⟨⟨j + 1, _, by omega, by go_num, HN'.out⟩, rfl⟩
                        case measure => simp [intOf]; omega
                    · have hD' : stepTC D j p = some (upd (upd D t c) (j + 1) c) := by rw [HS.out, if_neg (by rw [bad1]; simp [q3]; omega), if_neg (by decide), upd_ne _ (by omega), if_neg (by omega)]
                      obtain ⟨u3, hu3, T3, O3⟩ := tab_store T2 htn c
                      obtain ⟨u4, hu4, T4, O4⟩ := tab_store T3 (show j + 1 ≤ ps.length by omega) c
                      have HU3 : Hid (_ = u3) := hu3
                      have HU4 : Hid (_ = u4) := hu4
                      have HN' : Hid (TabL w B ps (j + 1) (upd (upd D t c) (j + 1) c) u4) := ⟨below_outT (below_outT G2 O3 HL.out.le) O4 HL.out.le, T4, by have := O3.size; have := O4.size; omega, HL.out.le, by rw [HR.out, ← HRun.out, hD'], upd_bd (upd_bd HL.out.bd (by omega) _) (by omega) _⟩
                      have ft := T2.f t
                      have fj := T2.f (j + 1)
                      clear T2 C2 bad1 hu3 T3 O3 hu4 T4 O4
                      go_wp2
                      rw [HU3.out, HU4.out]
                      go_roundw
                      case rel => (repeat apply Exists.intro); exact ⟨⟨j + 1, _, by omega, by go_num, HN'.out⟩, rfl⟩
                      case measure => simp [intOf]; omega
        · obtain rfl : j = ps.length := by omega
          have hrun := HL.out.run
          rw [List.drop_length, depthsT, HR.out] at hrun
          have HF : Hid (DepR w wr ps.length R (.slice (some ⟨B, 0, none⟩) (ps.length + 1) (ps.length + 1)) ∧ Below w.heap.size w wr) := ⟨.inr ⟨D, B, hrun, rfl, HL.out.le, HL.out.lt, HL.out.tab⟩, HL.out.below⟩
          clear hrun HL
          go_wp2
          go_ret
          exact ⟨_, rfl, HF.out.1, HF.out.2⟩
end Go.Proofs.YtdhpbiplkjpiiaaGreatDoor
