/-
  What the laws' helper markStmtS does: it writes into what it is given, and nowhere else.
-/
import Derived.Test.YtoodhchphhhjfaaStmtTo
import Derived.Test.YtoodhchphhhjfaaExprMark
namespace Go.Proofs.Ytoodhchphhhjfaa
open Go.ChangeShapes Go.WideShapes Go.ChangeAt Go.RowKit
set_option linter.unusedVariables false
set_option maxRecDepth 100000

/-- Seven cells stored one behind another. -/
theorem store7 (u : World) (B o : Nat) (v0 v1 v2 v3 v4 v5 v6 : Value) :
    ∃ u1, ((((((u.setCell ⟨B, o, none⟩ v0).setCell ⟨B, o + 1, none⟩ v1).setCell ⟨B, o + 2, none⟩ v2).setCell ⟨B, o + 3, none⟩ v3).setCell ⟨B, o + 4, none⟩ v4).setCell ⟨B, o + 5, none⟩ v5).setCell ⟨B, o + 6, none⟩ v6 = u1 ∧
      (∀ b x, b ≠ B ∨ x < o ∨ o + 7 ≤ x → u1.cell? ⟨b, x, none⟩ = u.cell? ⟨b, x, none⟩) ∧ (∀ b x, u1.frozen? ⟨b, x, none⟩ = u.frozen? ⟨b, x, none⟩) ∧ (∀ k, k ≠ B → u1.heap[k]? = u.heap[k]?) ∧ u1.heap.size = u.heap.size ∧ ∀ lo hi w, lo ≤ B → B < hi → Out lo hi w u → Out lo hi w u1 := by
  refine ⟨_, rfl, ?_, ?_, ?_, ?_, ?_⟩
  · intro b x hx
    rw [cell_set_other _ (by omega), cell_set_other _ (by omega), cell_set_other _ (by omega), cell_set_other _ (by omega), cell_set_other _ (by omega), cell_set_other _ (by omega), cell_set_other _ (by omega)]
  · intro b x
    rw [World.frozen?_setCell, World.frozen?_setCell, World.frozen?_setCell, World.frozen?_setCell, World.frozen?_setCell, World.frozen?_setCell, World.frozen?_setCell]
  · intro k hk
    rw [Below.heap_setCell _ _ _ _ hk, Below.heap_setCell _ _ _ _ hk, Below.heap_setCell _ _ _ _ hk, Below.heap_setCell _ _ _ _ hk, Below.heap_setCell _ _ _ _ hk, Below.heap_setCell _ _ _ _ hk, Below.heap_setCell _ _ _ _ hk]
  · simp [World.setCell]
  · intro lo hi w h1 h2 h
    exact ((((((h.set _ h1 h2).set _ h1 h2).set _ h1 h2).set _ h1 h2).set _ h1 h2).set _ h1 h2).set _ h1 h2

/-- What holds as j statements of an owned list have been marked. -/
structure MarkT (w : World) (lo hi b off : Nat) (ss : List StmtD) (x y z : Nat → Value) (r : Nat → Rg) (j : Nat) (wr : World) : Prop where
  out : Out lo hi w wr
  todo : ∀ i s, j ≤ i → ss[i]? = some s → Cell10 wr b (off + i * 10) s (x i) (y i) (z i) ∧ KO wr (r i).a0 (r i).a1 (x i) s.e.kids ∧ SO wr (r i).b0 (r i).b1 (y i) s.th ∧ SO wr (r i).c0 (r i).c1 (z i) s.el
  frozen : ∀ o, wr.frozen? ⟨b, off + o, none⟩ = false

theorem MarkT.next {w wr u u' : World} {lo hi b off : Nat} {ss : List StmtD} {x y z : Nat → Value} {r : Nat → Rg} {j : Nat} (m : MarkT w lo hi b off ss x y z r j wr) (hj : j < ss.length) (hlo : lo ≤ b) (hhi : b < hi) (hw : hi ≤ wr.heap.size)
    (hr : ∀ i, i < ss.length → (r i).Ok lo hi b) (hd : ∀ i j, i < j → j < ss.length → (r i).h ≤ (r j).l ∨ (r j).h ≤ (r i).l)
    (ho : ∀ b' x, b' ≠ b ∨ x < off + j * 10 ∨ off + j * 10 + 7 ≤ x → u.cell? ⟨b', x, none⟩ = wr.cell? ⟨b', x, none⟩) (hf : ∀ b x, u.frozen? ⟨b, x, none⟩ = wr.frozen? ⟨b, x, none⟩) (hh : ∀ k, k ≠ b → u.heap[k]? = wr.heap[k]?) (hz : u.heap.size = wr.heap.size)
    (hbl : ∀ lo hi w, lo ≤ b → b < hi → Out lo hi w wr → Out lo hi w u) (hu : Out (r j).l (r j).h u u') : MarkT w lo hi b off ss x y z r (j + 1) u' := by
  have hrj := hr j hj
  obtain ⟨o1, o2, o3, o4, o5, o6, o7, o8, o9⟩ := id hrj
  have hbu : u'.heap[b]? = u.heap[b]? := hu.block b (by omega) (by omega)
  have hcell : ∀ x, u'.cell? ⟨b, x, none⟩ = u.cell? ⟨b, x, none⟩ := fun x => World.cell?_of_block hbu
  refine ⟨(hbl _ _ _ hlo hhi m.out).trans (hu.wide (by omega) (by omega)), fun i s hi his => ?_, fun o => ?_⟩
  · have hil : i < ss.length := (List.getElem?_eq_some_iff.mp his).1
    obtain ⟨d, d1, d2, d3⟩ := m.todo i s (by omega) his
    obtain ⟨p1, p2, p3, p4, p5, p6, p7, p8, p9⟩ := hr i hil
    have hdij := hd j i (by omega) hil
    have hkeep : ∀ q, (r i).l ≤ q → q < (r i).h → u'.heap[q]? = wr.heap[q]? := fun q h1 h2 => by
      rw [hu.block q (by omega) (by omega)]
      exact hh q (by omega)
    refine ⟨⟨?_, ?_, ?_, ?_, ?_, ?_, ?_, ?_, ?_, ?_⟩, d1.kept fun q h1 h2 => hkeep q (by omega) (by omega), d2.kept fun q h1 h2 => hkeep q (by omega) (by omega), d3.kept fun q h1 h2 => hkeep q (by omega) (by omega)⟩
    · rw [hcell, ho _ _ (by omega)]; exact d.c0
    · rw [hcell, ho _ _ (by omega)]; exact d.c1
    · rw [hcell, ho _ _ (by omega)]; exact d.c2
    · rw [hcell, ho _ _ (by omega)]; exact d.c3
    · rw [hcell, ho _ _ (by omega)]; exact d.c4
    · rw [hcell, ho _ _ (by omega)]; exact d.c5
    · rw [hcell, ho _ _ (by omega)]; exact d.c6
    · rw [hcell, ho _ _ (by omega)]; exact d.c7
    · rw [hcell, ho _ _ (by omega)]; exact d.c8
    · rw [hcell, ho _ _ (by omega)]; exact d.c9
  · rw [World.frozen?_of_block hbu, hf]; exact m.frozen o

/-- What markStmtS does. -/
def MarkTS (n : Nat) : Prop := ∀ (w : World) (lo hi : Nat) (v : Value) (ss : List StmtD) (k : Int), sizeL ss ≤ n → 0 ≤ k → k + 7 * (sizeL ss : Int) ≤ 1000000000 → SO w lo hi v ss → hi ≤ w.heap.size →
  Calls Try.prog 13 #[v, .int .i64 k] w fun en w' => ∃ k', en = .returned (.int .i64 k') ∧ k ≤ k' ∧ k' ≤ k + 7 * (sizeL ss : Int) ∧ Out lo hi w w'

set_option maxHeartbeats 8000000 in
theorem markT_step {n : Nat} (H : ∀ m, m < n → MarkTS m) : MarkTS n := by
  intro w lo hi v ss k hn hk0 hkm hso hhi
  cases hso with
  | nil _ _ ad cap hc =>
    unfold maxLen at hc
    have e1 : sizeL ([] : List StmtD) = 0 := by rw [sizeL]
    rw [e1]
    clear e1 hn hkm
    go_enter Try.func13, Try.ntmps13
    go_wp2_with fail
    go_loopw [1, 5] (fun q i wr => q = .int .i64 k ∧ i = .int .i64 0 ∧ wr = w) (fun _ _ _ => 0)
    case atStart => exact ⟨rfl, rfl, rfl⟩
    case round =>
      obtain ⟨rfl, rfl, rfl⟩ := hrel
      go_wp2
      go_ret
      exact ⟨k, rfl, Int.le_refl _, by omega, out_of_below (Below.refl _ _) _ _⟩
  | cons _ _ b off cap _ x y z r h0 h1 h2 h3 h4 hf hc hr hd he ht hl =>
    have hmx : ss.length ≤ 9223372036854775807 := by unfold maxLen at h2; omega
    have HI : Hid (MarkT w lo hi b off ss x y z r 0 w) := ⟨out_of_below (Below.refl _ _) _ _, fun i s _ hie => ⟨hc i s hie, he i s hie, ht i s hie, hl i s hie⟩, hf⟩
    have HRR : Hid ((∀ i, i < ss.length → (r i).Ok lo hi b) ∧ (∀ i j, i < j → j < ss.length → (r i).h ≤ (r j).l ∨ (r j).h ≤ (r i).l)) := ⟨hr, hd⟩
    have HM : Hid (sizeL ss ≤ n ∧ k + 7 * (sizeL ss : Int) ≤ 1000000000) := ⟨hn, hkm⟩
    clear hf hc hr hd he ht hl hn hkm
    go_enter Try.func13, Try.ntmps13
    go_wp2_with fail
    go_loopw [1, 5] (fun q i wr => ∃ (j : Nat) (M : Int), j ≤ ss.length ∧ q = .int .i64 M ∧ k ≤ M ∧ Hid (M ≤ k + 7 * (sizeL (ss.take j) : Int)) ∧ i = .int .i64 j ∧ Hid (MarkT w lo hi b off ss x y z r j wr)) (fun _ i _ => ss.length - (intOf i).toNat)
    case atStart => exact ⟨0, k, Nat.zero_le _, rfl, Int.le_refl _, by show k ≤ k + 7 * ((sizeL ([] : List StmtD) : Nat) : Int); rw [sizeL]; omega, rfl, HI.out⟩
    case round =>
      clear HI
      obtain ⟨j, M, hj, rfl, hM1, HM2, rfl, HI⟩ := hrel
      have hle : M ≤ 1000000000 := by
        have h5 := sizeL_take_le ss j
        have h6 := HM.out.2
        have h7 := HM2.out
        omega
      by_cases hlt : j < ss.length
      · obtain ⟨s, hs⟩ : ∃ s, ss[j]? = some s := ⟨ss[j], List.getElem?_eq_getElem hlt⟩
        have hlt' : (j : Int) < (ss.length : Int) := by omega
        have hws := HI.out.out.size
        obtain ⟨hc10, hkx, hky, hkz⟩ := HI.out.todo j s (Nat.le_refl _) hs
        obtain ⟨u, hu, ho, hff, hh, hz, hbl⟩ := store7 wr b (off + j * 10) (.int .i64 M) (.int .i64 (M + 1)) (.int .i64 (M + 2)) (.int .i64 (M + 3)) (.int .i64 (M + 4)) (.int .i64 (M + 5)) (.int .i64 (M + 6))
        have hkl := stmt_lt hs
        have hms := sizeL_take_succ hs
        rw [sizeS_eq] at hms
        have hmle : M + 7 + 4 * (manyL s.e.kids : Int) + 7 * (sizeL s.th : Int) + 7 * (sizeL s.el : Int) ≤ 1000000000 := by
          have h5 := sizeL_take_le ss (j + 1)
          have h6 := HM.out.2
          have h7 := HM2.out
          omega
        have HNX : Hid (∀ M' : Int, M' ≤ M + 7 + 4 * (manyL s.e.kids : Int) + 7 * (sizeL s.th : Int) + 7 * (sizeL s.el : Int) → M' ≤ k + 7 * (sizeL (ss.take (j + 1)) : Int)) := fun M' h => by
          have h7 := HM2.out
          rw [hms]
          omega
        obtain ⟨p1, p2, p3, p4, p5, p6, p7, p8, p9⟩ := HRR.out.1 j hlt
        have hC := markS _ u (r j).a0 (r j).a1 (x j) s.e.kids (M + 7) (Nat.le_refl _) (by omega) (by omega) (hkx.kept fun q q1 q2 => hh q (by omega)) (by omega)
        have HN : Hid (∀ u', Out (r j).l (r j).h u u' → MarkT w lo hi b off ss x y z r (j + 1) u') := fun u' a2 =>
          HI.out.next hlt h3 h4 (by omega) HRR.out.1 HRR.out.2 ho hff hh hz hbl a2
        have HU : Hid (_ = u) := hu
        have HS : Hid (SO u (r j).b0 (r j).b1 (y j) s.th ∧ SO u (r j).c0 (r j).c1 (z j) s.el ∧ sizeL s.th < n ∧ sizeL s.el < n) := ⟨hky.kept fun q q1 q2 => hh q (by omega), hkz.kept fun q q1 q2 => hh q (by omega), by have := HM.out.1; omega, by have := HM.out.1; omega⟩
        obtain ⟨c0, c1, c2, c3, c4, c5, c6, c7, c8, c9⟩ := hc10
        have f0 := HI.out.frozen (j * 10)
        have f1 := HI.out.frozen (j * 10 + 1)
        have f2 := HI.out.frozen (j * 10 + 2)
        have f3 := HI.out.frozen (j * 10 + 3)
        have f4 := HI.out.frozen (j * 10 + 4)
        have f5 := HI.out.frozen (j * 10 + 5)
        have f6 := HI.out.frozen (j * 10 + 6)
        rw [← Nat.add_assoc] at f1 f2 f3 f4 f5 f6
        obtain ⟨ax, cx, hsx, _, _⟩ := hkx.kr.shape
        obtain ⟨ay, cy, hsy, _, _⟩ := hky.sr.shape
        obtain ⟨az, cz, hsz, _, _⟩ := hkz.sr.shape
        rw [hsx] at c7 hC
        rw [hsy] at c8 HS
        rw [hsz] at c9 HS
        have HC : Hid (u.cell? ⟨b, off + j * 10 + 7, none⟩ = some (.slice ax s.e.kids.length cx) ∧ u.cell? ⟨b, off + j * 10 + 8, none⟩ = some (.slice ay s.th.length cy) ∧ u.cell? ⟨b, off + j * 10 + 9, none⟩ = some (.slice az s.el.length cz)) :=
          ⟨by rw [ho _ _ (by omega)]; exact c7, by rw [ho _ _ (by omega)]; exact c8, by rw [ho _ _ (by omega)]; exact c9⟩
        have HMS : Hid (M + 7 + 4 * (manyL s.e.kids : Int) + 7 * (sizeL s.th : Int) + 7 * (sizeL s.el : Int) ≤ 1000000000) := hmle
        have hsu : u.heap.size = wr.heap.size := hz
        clear hu ho hff hh hz hbl hms hkx hky hkz hsx hsy hsz hkl hmle HI HM2
        go_wp2_with fail
        rw [show M + 1 + 1 = M + 2 by omega, show M + 2 + 1 = M + 3 by omega, show M + 3 + 1 = M + 4 by omega, show M + 4 + 1 = M + 5 by omega, show M + 5 + 1 = M + 6 by omega, show M + 6 + 1 = M + 7 by omega, show off + j * 10 + 1 + 1 = off + j * 10 + 2 from rfl, show off + j * 10 + 3 + 1 = off + j * 10 + 4 from rfl, show off + j * 10 + 3 + 2 + 1 = off + j * 10 + 6 from rfl, HU.out]
        refine hC.mono ?_
        clear hC c0 c1 c2 c3 c4 c5 c6 c7 c8 c9 f0 f1 f2 f3 f4 f5 f6 HU
        rintro e1 u1 ⟨rfl, _, a2⟩
        have S1 := a2.size
        have hC2 := H (sizeL s.th) HS.out.2.2.1 u1 (r j).b0 (r j).b1 _ s.th (M + 7 + 4 * (manyL s.e.kids : Int)) (Nat.le_refl _) (by omega) (by have := HMS.out; omega) (HS.out.1.kept fun q q1 q2 => a2.block q (by omega) (by omega)) (by omega)
        have c8 : u1.cell? ⟨b, off + j * 10 + 8, none⟩ = some (.slice ay s.th.length cy) := by rw [World.cell?_of_block (w := u) (a2.block b (by omega) (by omega))]; exact HC.out.2.1
        have HO1 : Hid (Out (r j).a0 (r j).a1 u u1) := a2
        have hb2 : M + 7 + 4 * (manyL s.e.kids : Int) ≤ 1000000000 := by have := HMS.out; omega
        clear a2
        go_wp2_with fail
        refine hC2.mono ?_
        clear hC2 c8
        rintro e2 u2 ⟨k2, rfl, hk1, hk2, a3⟩
        have S2 := a3.size
        have hC3 := H (sizeL s.el) HS.out.2.2.2 u2 (r j).c0 (r j).c1 _ s.el k2 (Nat.le_refl _) (by omega) (by have := HMS.out; omega) (HS.out.2.1.kept fun q q1 q2 => (a3.block q (by omega) (by omega)).trans (HO1.out.block q (by omega) (by omega))) (by omega)
        have c9 : u2.cell? ⟨b, off + j * 10 + 9, none⟩ = some (.slice az s.el.length cz) := by rw [World.cell?_of_block (w := u) ((a3.block b (by omega) (by omega)).trans (HO1.out.block b (by omega) (by omega)))]; exact HC.out.2.2
        have HO2 : Hid (Out (r j).l (r j).h u u2) := (HO1.out.wide (by omega) (by omega)).trans (a3.wide (by omega) (by omega))
        have hb3 : k2 ≤ 1000000000 := by have := HMS.out; omega
        clear a3 HO1
        go_wp2_with fail
        refine hC3.mono ?_
        clear hC3 c9
        rintro e3 u3 ⟨k3, rfl, hk3, hk4, a4⟩
        have HI' : Hid (MarkT w lo hi b off ss x y z r (j + 1) u3) := HN.out u3 (HO2.out.trans (a4.wide (by omega) (by omega)))
        have hk5 : k ≤ k3 := by omega
        have HK : Hid (k3 ≤ k + 7 * (sizeL (ss.take (j + 1)) : Int)) := HNX.out k3 (by omega)
        have hb4 : k3 ≤ 1000000000 := by have := HMS.out; omega
        clear a4 HO2 HN HNX HS HC p1 p2 p3 p4 p5 p6 p7 p8 p9
        go_wp2
        go_roundw
        case rel => exact ⟨j + 1, k3, by omega, rfl, hk5, HK.out, by go_num, HI'.out⟩
        case measure => simp [intOf]; omega
      · obtain rfl : j = ss.length := by omega
        have HO : Hid (Out lo hi w wr) := HI.out.out
        have hR := HM2.out
        rw [List.take_length] at hR
        have HR : Hid (M ≤ k + 7 * (sizeL ss : Int)) := hR
        clear HI hR HM2
        go_wp2
        go_ret
        exact ⟨M, rfl, hM1, HR.out, HO.out⟩

theorem markT (n : Nat) : MarkTS n := by
  induction n using Nat.strongRecOn with
  | ind n ih => exact markT_step ih
end Go.Proofs.Ytoodhchphhhjfaa
