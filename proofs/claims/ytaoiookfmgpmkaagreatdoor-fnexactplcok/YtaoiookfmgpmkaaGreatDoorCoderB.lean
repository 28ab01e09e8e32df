/-
  The program's coder: what is reckoned, statements, lists; CodeOf. (Written by our generator gen_coder.py.)
-/
import Derived.Test.YtaoiookfmgpmkaaGreatDoorCoderA
import Derived.Test.YtaoiookfmgpmkaaGreatDoorCodeOfData
import Derived.Test.YtaoiookfmgpmkaaGreatDoorStmtsB
namespace Go.Proofs.YtaoiookfmgpmkaaGreatDoor
open Go.ChangeShapes Go.WideShapes Go.ChangeAt Go.RowKit
set_option linter.unusedVariables false
set_option maxRecDepth 100000

theorem CodT.five {B A : Nat} {v v' : Value} {w w' : World} {ps : List InsD} (h : CodT B v v' w w') (hc : Cod w B A v ps) {V : Nat} {x0 x1 x2 x3 x4 : Value} (hf : Five w V x0 x1 x2 x3 x4) (hV : V < w.heap.size) (hB : V ≠ B) (hv : v.ownBlock ≠ some V) : Five w' V x0 x1 x2 x3 x4 := by
  have hk := h.keep.block V ⟨hV, hB, fun e => hv e.symm⟩
  exact ⟨by rw [World.cell?_of_block (w := w) hk]; exact hf.c0, by rw [World.cell?_of_block (w := w) hk]; exact hf.c1, by rw [World.cell?_of_block (w := w) hk]; exact hf.c2, by rw [World.cell?_of_block (w := w) hk]; exact hf.c3, by rw [World.cell?_of_block (w := w) hk]; exact hf.c4, fun o => by rw [World.frozen?_of_block (w := w) hk]; exact hf.f o⟩

theorem CodT.own {B V : Nat} {v v' : Value} {w w' : World} (h : CodT B v v' w w') (hV : V < w.heap.size) (hv : v.ownBlock ≠ some V) : v'.ownBlock ≠ some V := by
  rcases h.at_ with e | ⟨g, e, hg⟩
  · rw [e]; exact hv
  · rw [e]; intro e2; simp only [Option.some.injEq] at e2; omega

/-- What expr does, of what has at most n parts below. -/
def CE (n : Nat) : Prop := ∀ (w : World) (B A : Nat) (v : Value) (ps : List InsD) (lo hi : Nat) (s : Value) (e : ExprD), manyL e.kids ≤ n → Cod w B A v ps → A ≤ B → KR w lo hi s e.kids → hi ≤ A → ps.length + manyL e.kids + 1 ≤ 8000000 →
  Calls Tryz.prog 292 #[.pointer (some ⟨B, 0, none⟩), .agg #[.int .i64 e.k, .int .i64 e.n, .int .i64 e.ak, .int .i64 e.at_, s]] w fun en w' => ∃ v', en = .returned (.tuple #[]) ∧ Cod w' B A v' (ps ++ codeE e) ∧ CodT B v v' w w'

/-- What holds ahead of a round over the kids. -/
structure KidL (w u0 : World) (B A : Nat) (v : Value) (ps : List InsD) (e : ExprD) (j : Nat) (v' : Value) (wr : World) : Prop where
  cod : Cod wr B A v' (ps ++ codeK (e.kids.take j))
  turn : CodT B v v' u0 wr

set_option maxHeartbeats 8000000 in
theorem ce_step {n : Nat} (H : ∀ m, m < n → CE m) : CE n := by
  intro w B A v ps lo hi s e hn hc hAB h hhi hl
  obtain ⟨ad, cap, rfl, hc1, hc2⟩ := h.shape
  have hBw := hc.lt
  have hmx : e.kids.length ≤ 8000000 := by have := length_le_manyL e.kids; omega
  obtain ⟨u0, hu0, G0, F0, S0⟩ : ∃ u0, w.alloc (.cells #[.int .i64 e.k, .int .i64 e.n, .int .i64 e.ak, .int .i64 e.at_, .slice ad e.kids.length cap] 121) = u0 ∧ Below w.heap.size w u0 ∧ Five u0 w.heap.size (.int .i64 e.k) (.int .i64 e.n) (.int .i64 e.ak) (.int .i64 e.at_) (.slice ad e.kids.length cap) ∧ u0.heap.size = w.heap.size + 1 :=
    ⟨_, rfl, (Below.refl _ _).alloc (Nat.le_refl _) _, five_new w _ _ _ _ _ _, by simp⟩
  have HU : Hid (_ = u0) := hu0
  have hV : v.ownBlock ≠ some w.heap.size := fun e => by have := (hc.row.lt _ e).2; omega
  have HC : Hid (Cod w B A v ps ∧ Cod u0 B A v ps ∧ KR w lo hi (.slice ad e.kids.length cap) e.kids ∧ Five u0 w.heap.size (.int .i64 e.k) (.int .i64 e.n) (.int .i64 e.ak) (.int .i64 e.at_) (.slice ad e.kids.length cap) ∧ v.ownBlock ≠ some w.heap.size ∧ manyL e.kids ≤ n) := ⟨hc, hc.below G0 (Nat.le_refl _), h, F0, hV, hn⟩
  have hL0 : KidL w u0 B A v ps e 0 v u0 := ⟨by rw [List.take_zero, codeK, List.append_nil]; exact HC.out.2.1, CodT.refl _ _ _⟩
  clear hu0 h hc F0 hc1 hc2 hV hn
  go_enter Tryz.func292, Tryz.ntmps292
  go_wp2_with fail
  rw [HU.out]
  go_loopw [9] (fun i wr => ∃ (j : Nat) (v' : Value), j ≤ e.kids.length ∧ i = .int .i64 j ∧ KidL w u0 B A v ps e j v' wr) (fun i _ => e.kids.length - (intOf i).toNat)
  case atStart => exact ⟨0, v, Nat.zero_le _, rfl, hL0⟩
  case round =>
    clear hL0
    obtain ⟨j, v1, hj, rfl, hL⟩ := hrel
    have HL : Hid (KidL w u0 B A v ps e j v1 wr) := hL
    have hBl : Below A u0 wr := hL.turn.below HC.out.2.1 hAB (by omega)
    have hwr := hL.turn.keep.size
    have hF := hL.turn.five HC.out.2.1 HC.out.2.2.2.1 (by omega) (by omega) HC.out.2.2.2.2.1
    have hBA : Below A w wr := (G0.mono (by omega)).trans hBl
    clear hL
    by_cases hlt : j < e.kids.length
    · obtain ⟨x, hx⟩ : ∃ x, e.kids[j]? = some x := ⟨e.kids[j], List.getElem?_eq_getElem hlt⟩
      obtain ⟨b, off, cap', s', hv, hb1, hb2, h5, hk⟩ := HC.out.2.2.1.at_ hx
      simp only [Value.slice.injEq, true_and] at hv
      obtain ⟨rfl, rfl⟩ := hv
      obtain ⟨c0, c1, c2, c3, c4⟩ := h5.kept (hBA.block b (by omega))
      obtain ⟨ads, cps, rfl, _, _⟩ := hk.shape
      have hkl := kid_lt hx
      have hkt := manyL_take_le e.kids (j + 1)
      have hks := manyL_take_succ hx
      have hme := manyE_eq x
      have hsuc := codeK_take_succ hx
      have hcl := codeK_len (e.kids.take j)
      have gA : Below wr.heap.size wr (wr.alloc (.cells #[.int .i64 x.k, .int .i64 x.n, .int .i64 x.ak, .int .i64 x.at_, .slice ads x.kids.length cps] 121)) := (Below.refl _ _).alloc (Nat.le_refl _) _
      have hC := H (manyL x.kids) (by have := HC.out.2.2.2.2.2; omega) (wr.alloc (.cells #[.int .i64 x.k, .int .i64 x.n, .int .i64 x.ak, .int .i64 x.at_, .slice ads x.kids.length cps] 121)) B A v1 (ps ++ codeK (e.kids.take j)) lo hi _ x (Nat.le_refl _) (HL.out.cod.below gA (Nat.le_refl _)) hAB ((hk.under hBA hhi).under gA (by omega)) hhi (by rw [List.length_append, hcl]; omega)
      have HS : Hid (codeK (e.kids.take (j + 1)) = codeK (e.kids.take j) ++ codeE x) := hsuc
      clear hx h5 hk hkl hkt hks hme hsuc hcl hF hBl hBA
      go_wp2_with fail
      refine hC.mono ?_
      rintro e1 u1 ⟨v2, rfl, C2, T2⟩
      have HN : Hid (KidL w u0 B A v ps e (j + 1) v2 u1) := ⟨by rw [HS.out, ← List.append_assoc]; exact C2, HL.out.turn.trans ((codT_below gA (Nat.le_refl _)).trans T2)⟩
      clear hC gA C2 T2 c0 c1 c2 c3 c4
      go_wp2
      go_roundw
      case rel => exact ⟨j + 1, v2, by omega, by go_num, HN.out⟩
      case measure => simp [intOf]; omega
    · obtain rfl : j = e.kids.length := by omega
      have hcod := HL.out.cod
      rw [List.take_length] at hcod
      have hcl := codeK_len e.kids
      have hall : (ps ++ codeK e.kids).length ≤ 8000000 := by rw [List.length_append, hcl]; omega
      have hAw : A ≤ wr.heap.size := by omega
      have HE : Hid (codeE e = codeK e.kids ++ [lastE e]) := codeE_eq e
      have hadd := fun p => add_any wr B A v1 (ps ++ codeK e.kids) p hcod hAw hall
      unfold InsD.val at hadd
      have HT : Hid (CodT B v v1 w wr) := (codT_below G0 (Nat.le_refl _)).trans HL.out.turn
      obtain ⟨c0, c1, c2, c3, c4, _⟩ := hF
      clear hcod hcl hall hBl hBA HL
      by_cases k1 : e.k = 1
      · have hla : lastE e = ⟨1, e.n, 0, 0⟩ := by unfold lastE; rw [if_pos k1]
        have k1' : (e.k == 1) = true := by simp [k1]
        have hC := hadd ⟨1, e.n, 0, 0⟩
        clear hadd
        go_wp2_with fail
        refine hC.mono ?_
        rintro e1 u1 ⟨v2, rfl, C2, T2⟩
        have HF : Hid (Cod u1 B A v2 (ps ++ codeE e) ∧ CodT B v v2 w u1) := ⟨by rw [HE.out, ← List.append_assoc, hla]; exact C2, HT.out.trans T2⟩
        clear hC C2 T2 c0 c1 c2 c3 c4 hla
        go_wp2
        go_end0
        exact ⟨v2, rfl, HF.out.1, HF.out.2⟩
      have k1' : (e.k == 1) = false := by simp [k1]
      by_cases k2 : e.k = 2
      · have hla : lastE e = ⟨2, 0, e.ak, e.at_⟩ := by unfold lastE; rw [if_neg k1, if_pos k2]
        have k2' : (e.k == 2) = true := by simp [k2]
        clear k1 k2
        have hC := hadd ⟨2, 0, e.ak, e.at_⟩
        clear hadd
        go_wp2_with fail
        refine hC.mono ?_
        rintro e1 u1 ⟨v2, rfl, C2, T2⟩
        have HF : Hid (Cod u1 B A v2 (ps ++ codeE e) ∧ CodT B v v2 w u1) := ⟨by rw [HE.out, ← List.append_assoc, hla]; exact C2, HT.out.trans T2⟩
        clear hC C2 T2 c0 c1 c2 c3 c4 hla
        go_wp2
        go_end0
        exact ⟨v2, rfl, HF.out.1, HF.out.2⟩
      have k2' : (e.k == 2) = false := by simp [k2]
      by_cases k3 : e.k = 10
      · have hla : lastE e = ⟨5, 0, 0, 0⟩ := by unfold lastE; rw [if_neg k1, if_neg k2, if_pos k3]
        have k3' : (e.k == 10) = true := by simp [k3]
        clear k1 k2 k3
        have hC := hadd ⟨5, 0, 0, 0⟩
        clear hadd
        go_wp2_with fail
        refine hC.mono ?_
        rintro e1 u1 ⟨v2, rfl, C2, T2⟩
        have HF : Hid (Cod u1 B A v2 (ps ++ codeE e) ∧ CodT B v v2 w u1) := ⟨by rw [HE.out, ← List.append_assoc, hla]; exact C2, HT.out.trans T2⟩
        clear hC C2 T2 c0 c1 c2 c3 c4 hla
        go_wp2
        go_end0
        exact ⟨v2, rfl, HF.out.1, HF.out.2⟩
      have k3' : (e.k == 10) = false := by simp [k3]
      have hla : lastE e = ⟨4, e.k, 0, 0⟩ := by unfold lastE; rw [if_neg k1, if_neg k2, if_neg k3]
      clear k1 k2 k3
      have hC := hadd ⟨4, e.k, 0, 0⟩
      clear hadd
      go_wp2_with fail
      refine hC.mono ?_
      rintro e1 u1 ⟨v2, rfl, C2, T2⟩
      have HF : Hid (Cod u1 B A v2 (ps ++ codeE e) ∧ CodT B v v2 w u1) := ⟨by rw [HE.out, ← List.append_assoc, hla]; exact C2, HT.out.trans T2⟩
      clear hC C2 T2 c0 c1 c2 c3 c4 hla
      go_wp2
      go_end0
      exact ⟨v2, rfl, HF.out.1, HF.out.2⟩

theorem ceS (n : Nat) : CE n := by
  induction n using Nat.strongRecOn with
  | ind n ih => exact ce_step ih
end Go.Proofs.YtaoiookfmgpmkaaGreatDoor
