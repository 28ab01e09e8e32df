/-
  The model's copy of statements (l4Copy). (Written by our generator gen_slimv.py.)
-/
import Derived.Test.YtkeockippmmneaaGreatQS2
import Derived.Test.YtkeockippmmneaaGreatCopyE
import Derived.Test.YtkeockippmmneaaGreatSlimU
namespace Go.Proofs.YtkeockippmmneaaGreat
open Go.ChangeShapes Go.WideShapes Go.ChangeAt Go.RowKit
set_option linter.unusedVariables false
set_option linter.unusedSimpArgs false
set_option maxRecDepth 100000

theorem TenW.setK {u : World} {V k : Nat} {x0 x1 x2 x3 x4 x5 x6 x7 x8 x9 : Value} (h : TenW u V x0 x1 x2 x3 x4 x5 x6 x7 x8 x9) (hk : k = 3 ∨ k = 4 ∨ k = 5 ∨ k = 6 ∨ k = 7) (v : Value) : TenW (u.setCell ⟨V, k, none⟩ v) V x0 x1 x2 (if k = 3 then v else x3) (if k = 4 then v else x4) (if k = 5 then v else x5) (if k = 6 then v else x6) (if k = 7 then v else x7) x8 x9 := by
  rcases hk with rfl | rfl | rfl | rfl | rfl
  all_goals
    refine ⟨?_, ?_, ?_, ?_, ?_, ?_, ?_, ?_, ?_, ?_, fun o => by rw [World.frozen?_setCell]; exact h.f o⟩
    all_goals first
      | (rw [cell_set_other u (.inr (by decide))]; first | exact h.c0 | exact h.c1 | exact h.c2 | exact h.c3 | exact h.c4 | exact h.c5 | exact h.c6 | exact h.c7 | exact h.c8 | exact h.c9)
      | exact World.cell?_setCell_same' _ _ _ (by first | (rw [h.c3]; rfl) | (rw [h.c4]; rfl) | (rw [h.c5]; rfl) | (rw [h.c6]; rfl) | (rw [h.c7]; rfl))

/-- The five cells of what a statement reckons are written. -/
theorem TenW.setE {u : World} {V : Nat} {x0 x1 x2 x3 x4 x5 x6 x7 x8 x9 : Value} (h : TenW u V x0 x1 x2 x3 x4 x5 x6 x7 x8 x9) (v0 v1 v2 v3 v4 : Value) :
    ∃ u1, ((((u.setCell ⟨V, 3, none⟩ v0).setCell ⟨V, 4, none⟩ v1).setCell ⟨V, 5, none⟩ v2).setCell ⟨V, 6, none⟩ v3).setCell ⟨V, 7, none⟩ v4 = u1 ∧ TenW u1 V x0 x1 x2 v0 v1 v2 v3 v4 x8 x9 ∧ (∀ k, k ≠ V → u1.heap[k]? = u.heap[k]?) ∧ u1.heap.size = u.heap.size ∧ Below V u u1 :=
  ⟨_, rfl, ((((h.setK (k := 3) (by omega) v0).setK (k := 4) (by omega) v1).setK (k := 5) (by omega) v2).setK (k := 6) (by omega) v3).setK (k := 7) (by omega) v4, fun k hk => by rw [Below.heap_setCell _ _ _ _ hk, Below.heap_setCell _ _ _ _ hk, Below.heap_setCell _ _ _ _ hk, Below.heap_setCell _ _ _ _ hk, Below.heap_setCell _ _ _ _ hk], by simp,
    (((((Below.refl _ _).setCell (p := ⟨V, 3, none⟩) (Nat.le_refl _) _).setCell (p := ⟨V, 4, none⟩) (Nat.le_refl _) _).setCell (p := ⟨V, 5, none⟩) (Nat.le_refl _) _).setCell (p := ⟨V, 6, none⟩) (Nat.le_refl _) _).setCell (p := ⟨V, 7, none⟩) (Nat.le_refl _) _⟩

theorem grownBy_block {w w' : World} {row : Option Nat} (h : w.grownBy w' row) {k : Nat} (hk : k < w.heap.size) (hne : ∀ g, row = some g → k ≠ g) : w'.heap[k]? = w.heap[k]? :=
  h.block k hk fun e => hne k e.symm rfl

theorem RowK.aside {w u : World} {base B : Nat} {v : Value} {qs : List ShellT} {r : Nat → Rg} (h : RowK w base v qs r) (hn : ∀ k, k ≠ B → u.heap[k]? = w.heap[k]?) (hs : u.heap.size = w.heap.size) (hB : B < base ∨ (∀ g, v.ownBlock = some g → g ≠ B) ∧ ∀ i, i < qs.length → B < (r i).l ∨ (r i).h ≤ B) : RowK u base v qs r :=
  ⟨h.row.at_ fun g hg => hn g (by
      rcases hB with hB | hB
      · have := (h.row.lt g hg).1
        omega
      · exact hB.1 g hg),
   hs ▸ (h.tk.kept fun i hi k q1 q2 => hn k (by
      rcases hB with hB | hB
      · have := (h.tk.rng i hi).lo_
        omega
      · have := hB.2 i hi
        omega)), h.out⟩

/-- What l4Copy answers, of a list not greater than n. -/
def CopyT (n : Nat) : Prop := ∀ (w : World) (lo hi : Nat) (v : Value) (ss : List StmtD), sizeL ss ≤ n → sizeL ss ≤ 1048576 → SR w lo hi v ss → hi ≤ w.heap.size →
  Calls Tryz.prog 13 #[v] w fun en w' => ∃ v', en = .returned v' ∧ SO w' w.heap.size w'.heap.size v' ss ∧ Below w.heap.size w w'

set_option maxHeartbeats 16000000 in
theorem copyT_step {n : Nat} (H : ∀ m, m < n → CopyT m) : CopyT n := by
  intro w lo hi v ss hm hbig h hhi
  obtain ⟨ad, cap, rfl, hc1, hc2⟩ := h.shape
  have hmx : ss.length ≤ 9223372036854775807 := by unfold maxLen at hc2; omega
  have hll := length_le_sizeL ss
  have HK : Hid (SR w lo hi (.slice ad ss.length cap) ss) := h
  have HM : Hid (sizeL ss ≤ n ∧ sizeL ss ≤ 1048576) := ⟨hm, hbig⟩
  have hl20 : ss.length ≤ 1048576 := by omega
  clear h hc1 hc2 hm hbig hll
  obtain ⟨u0, hu0, G0, R0, S0⟩ : ∃ u0, w.alloc (.cells #[] 44) = u0 ∧ Below w.heap.size w u0 ∧ RowG shellTE 44 u0 w.heap.size (.slice (some ⟨w.heap.size, 0, none⟩) 0 0) ([] : List ShellT) ∧ u0.heap.size = w.heap.size + 1 :=
    ⟨_, rfl, (Below.refl _ _).alloc (Nat.le_refl _) _, rowG_none _ _ _ (Nat.le_refl _), by simp⟩
  have HI : Hid (RowK u0 w.heap.size (.slice (some ⟨w.heap.size, 0, none⟩) 0 0) [] (fun _ => ⟨0, 0, 0, 0, 0, 0, 0, 0⟩) ∧ Below w.heap.size w u0) := ⟨⟨R0, TK.nil _ _ _ _, fun g _ i hi => by simp at hi⟩, G0⟩
  clear R0 G0
  go_enter Tryz.func13, Tryz.ntmps13
  go_wp2_with fail
  try rw [hu0]
  clear hu0
  go_loopw [3, 4] (fun ov iv wr => ∃ (j : Nat) (qs : List ShellT) (r : Nat → Rg), j ≤ ss.length ∧ iv = .int .i64 j ∧ w.heap.size + 1 ≤ wr.heap.size ∧ Hid (qs.map ShellT.s = ss.take j ∧ RowK wr w.heap.size ov qs r ∧ Below w.heap.size w wr)) (fun _ iv _ => ss.length - (intOf iv).toNat)
  case atStart => exact ⟨0, [], _, Nat.zero_le _, rfl, by omega, rfl, HI.out.1, HI.out.2⟩
  case round =>
    clear HI S0
    obtain ⟨j, qs, r, hj, rfl, hs, HR⟩ := hrel
    obtain ⟨va, vn, vc, hov⟩ : ∃ a n c, u3 = .slice a n c := by obtain ⟨a, c, h⟩ := HR.out.2.1.row.shape; exact ⟨a, _, c, h⟩
    subst hov
    by_cases hlt : j < ss.length
    · obtain ⟨s, hsj⟩ : ∃ s, ss[j]? = some s := ⟨ss[j], List.getElem?_eq_getElem hlt⟩
      have hlt' : (j : Int) < (ss.length : Int) := by omega
      obtain ⟨b, off, cap', x, y, z, hv, hb1, hb2, h5, hkx, hky, hkz⟩ := HK.out.at_ hsj
      simp only [Value.slice.injEq, true_and] at hv
      obtain ⟨rfl, rfl⟩ := hv
      have HS : Hid (ss[j]? = some s) := hsj
      have hkl := stmt_lt hsj
      have hmm := HM.out
      obtain ⟨ax, cx, rfl, _, _⟩ := hkx.shape
      obtain ⟨ay, cy, rfl, _, _⟩ := hky.shape
      obtain ⟨az, cz, rfl, _, _⟩ := hkz.shape
      have HX : Hid (KR w lo hi (.slice ax s.e.kids.length cx) s.e.kids ∧ SR w lo hi (.slice ay s.th.length cy) s.th ∧ SR w lo hi (.slice az s.el.length cz) s.el) := ⟨hkx, hky, hkz⟩
      have HQ : Hid (manyL s.e.kids ≤ 1048576 ∧ (sizeL s.th < n ∧ sizeL s.th ≤ 1048576) ∧ sizeL s.el < n ∧ sizeL s.el ≤ 1048576) := ⟨by omega, ⟨by omega, by omega⟩, by omega, by omega⟩
      obtain ⟨c0, c1, c2, c3, c4, c5, c6, c7, c8, c9⟩ := h5.kept (HR.out.2.2.block b (by omega))
      obtain ⟨B, hB⟩ : ∃ B, wr.heap.size = B := ⟨_, rfl⟩
      obtain ⟨u1, hu1, V1, g1, s1⟩ : ∃ u1, wr.alloc (.cells #[.int .i64 s.k, .int .i64 s.tk, .int .i64 s.ta, .int .i64 s.e.k, .int .i64 s.e.n, .int .i64 s.e.ak, .int .i64 s.e.at_, .slice ax s.e.kids.length cx, .slice ay s.th.length cy, .slice az s.el.length cz] 44) = u1 ∧ TenW u1 B (.int .i64 s.k) (.int .i64 s.tk) (.int .i64 s.ta) (.int .i64 s.e.k) (.int .i64 s.e.n) (.int .i64 s.e.ak) (.int .i64 s.e.at_) (.slice ax s.e.kids.length cx) (.slice ay s.th.length cy) (.slice az s.el.length cz) ∧ Below wr.heap.size wr u1 ∧ u1.heap.size = B + 1 := ⟨_, rfl, hB ▸ tenW_new _ _ _ _ _ _ _ _ _ _ _ _, (Below.refl _ _).alloc (Nat.le_refl _) _, by simp [hB]⟩
      have R1 := HR.out.2.1.below g1 (Nat.le_refl _)
      have G1 : Below w.heap.size w u1 := HR.out.2.2.trans (g1.mono (by omega))
      have HQS : Hid (qs.map ShellT.s = ss.take j) := HR.out.1
      have HTB : Hid ((∀ g, (Value.slice va vn vc).ownBlock = some g → g < B) ∧ ∀ i, i < qs.length → (r i).h ≤ B) := ⟨fun g hg => by have := (HR.out.2.1.row.lt g hg).2; omega, fun i hi => by have := (HR.out.2.1.tk.rng i hi).hi_; omega⟩
      obtain ⟨d0, d1, d2, d3, d4, d5, d6, d7, d8, d9, _⟩ := id V1
      clear hsj hkx hky hkz hkl hmm h5 g1 HR
      go_wp2_with fail
      try rw [hB]
      try rw [hu1]
      clear hu1 c0 c1 c2 c3 c4 c5 c6 c7 c8 c9 d0 d1 d2 d3 d4 d5 d6 d7 d8 d9
      refine (copyS _ u1 lo hi _ s.e ⟨_, rfl, HX.out.1.under G1 hhi⟩ (by omega) (Nat.le_refl _) HQ.out.1).mono ?_
      rintro e1 u2 ⟨v2, rfl, OE, g2⟩
      obtain ⟨xa, xc, rfl⟩ := OE.form5U
      have s2 := g2.size
      have V2 := V1.under g2 (by omega)
      have R2 := R1.below g2 (Nat.le_refl _)
      have G2 := G1.trans (g2.mono (by omega))
      obtain ⟨sxx, hsx, KX⟩ := OE
      simp only [Value.agg.injEq, Array.mk.injEq, List.cons.injEq, and_true, true_and] at hsx
      subst hsx
      clear g2 V1 R1 G1
      obtain ⟨u3', hu3, V3, N3, z3, b3⟩ := V2.setE (.int .i64 s.e.k) (.int .i64 s.e.n) (.int .i64 s.e.ak) (.int .i64 s.e.at_) (.slice xa s.e.kids.length xc)
      have R3 := R2.aside N3 z3 (.inr ⟨fun g hg => by have := HTB.out.1 g hg; omega, fun i hi => .inr (HTB.out.2 i hi)⟩)
      have G3 : Below w.heap.size w u3' := G2.trans (b3.mono (by omega))
      have K3 := KX.kept (w' := u3') fun k q1 q2 => N3 k (by omega)
      have HU3 : Hid (_ = u3') := hu3
      obtain ⟨d0, d1, d2, d3, d4, d5, d6, d7, d8, d9, df⟩ := id V2
      have f3 := df 3
      have f4 := df 4
      have f5 := df 5
      have f6 := df 6
      have f7 := df 7
      clear df b3 N3 KX G2 R2
      have d8' : u3'.cell? ⟨B, 8, none⟩ = some (.slice ay s.th.length cy) := V3.c8
      go_wp2_with fail
      try rw [HU3.out]
      clear hu3 d0 d1 d2 d3 d4 d5 d6 d7 d8 d9 f3 f4 f5 f6 f7 d8' V2
      refine (H _ HQ.out.2.1.1 u3' lo hi _ s.th (Nat.le_refl _) HQ.out.2.1.2 (HX.out.2.1.under G3 hhi) (by omega)).mono ?_
      rintro e2 u4 ⟨v4, rfl, OT, g4⟩
      obtain ⟨ya, yc, rfl, _, _⟩ := OT.sr.shape
      have s4 := g4.size
      have V4 := V3.under g4 (by omega)
      have R4 := R3.below g4 (Nat.le_refl _)
      have G4 := G3.trans (g4.mono (by omega))
      have K4 := K3.under g4 (by omega)
      clear g4 V3 R3 G3 K3
      obtain ⟨u5, hu5, V5, N5, z5, b5⟩ : ∃ u5, u4.setCell ⟨B, 8, none⟩ (.slice ya s.th.length yc) = u5 ∧ TenW u5 B (.int .i64 s.k) (.int .i64 s.tk) (.int .i64 s.ta) (.int .i64 s.e.k) (.int .i64 s.e.n) (.int .i64 s.e.ak) (.int .i64 s.e.at_) (.slice xa s.e.kids.length xc) (.slice ya s.th.length yc) (.slice az s.el.length cz) ∧ (∀ k, k ≠ B → u5.heap[k]? = u4.heap[k]?) ∧ u5.heap.size = u4.heap.size ∧ Below B u4 u5 := ⟨_, rfl, V4.set8 _, fun k hk => Below.heap_setCell _ _ _ _ hk, by simp, (Below.refl _ _).setCell (p := ⟨B, 8, none⟩) (Nat.le_refl _) _⟩
      have R5 := R4.aside N5 z5 (.inr ⟨fun g hg => by have := HTB.out.1 g hg; omega, fun i hi => .inr (HTB.out.2 i hi)⟩)
      have G5 : Below w.heap.size w u5 := G4.trans (b5.mono (by omega))
      have K5 := K4.kept (w' := u5) fun k q1 q2 => N5 k (by omega)
      have T5 := OT.kept (w' := u5) fun k q1 q2 => N5 k (by omega)
      obtain ⟨d0, d1, d2, d3, d4, d5, d6, d7, d8, d9, df⟩ := id V4
      have f8 := df 8
      have d9' : u5.cell? ⟨B, 9, none⟩ = some (.slice az s.el.length cz) := V5.c9
      clear df b5 N5 K4 G4 R4 OT
      go_wp2_with fail
      try rw [hu5]
      clear hu5 d0 d1 d2 d3 d4 d5 d6 d7 d8 d9 f8 d9' V4
      refine (H _ HQ.out.2.2.1 u5 lo hi _ s.el (Nat.le_refl _) HQ.out.2.2.2 (HX.out.2.2.under G5 hhi) (by omega)).mono ?_
      rintro e3 u6 ⟨v6, rfl, OL, g6⟩
      obtain ⟨za, zc, rfl, _, _⟩ := OL.sr.shape
      have s6 := g6.size
      have V6 := V5.under g6 (by omega)
      have R6 := R5.below g6 (Nat.le_refl _)
      have G6 := G5.trans (g6.mono (by omega))
      have K6 := K5.under g6 (by omega)
      have T6 := T5.under g6 (by omega)
      clear g6 V5 R5 G5 K5 T5
      obtain ⟨u7, hu7, V7, N7, z7, b7⟩ : ∃ u7, u6.setCell ⟨B, 9, none⟩ (.slice za s.el.length zc) = u7 ∧ TenW u7 B (.int .i64 s.k) (.int .i64 s.tk) (.int .i64 s.ta) (.int .i64 s.e.k) (.int .i64 s.e.n) (.int .i64 s.e.ak) (.int .i64 s.e.at_) (.slice xa s.e.kids.length xc) (.slice ya s.th.length yc) (.slice za s.el.length zc) ∧ (∀ k, k ≠ B → u7.heap[k]? = u6.heap[k]?) ∧ u7.heap.size = u6.heap.size ∧ Below B u6 u7 := ⟨_, rfl, V6.set9 _, fun k hk => Below.heap_setCell _ _ _ _ hk, by simp, (Below.refl _ _).setCell (p := ⟨B, 9, none⟩) (Nat.le_refl _) _⟩
      have R7 := R6.aside N7 z7 (.inr ⟨fun g hg => by have := HTB.out.1 g hg; omega, fun i hi => .inr (HTB.out.2 i hi)⟩)
      have G7 : Below w.heap.size w u7 := G6.trans (b7.mono (by omega))
      have K7 := K6.kept (w' := u7) fun k q1 q2 => N7 k (by omega)
      have T7 := T6.kept (w' := u7) fun k q1 q2 => N7 k (by omega)
      have L7 := OL.kept (w' := u7) fun k q1 q2 => N7 k (by omega)
      obtain ⟨u8, hu8, V8, g8, s8⟩ : ∃ u8, u7.alloc (.cells #[.int .i64 s.k, .int .i64 s.tk, .int .i64 s.ta, .int .i64 s.e.k, .int .i64 s.e.n, .int .i64 s.e.ak, .int .i64 s.e.at_, .slice xa s.e.kids.length xc, .slice ya s.th.length yc, .slice za s.el.length zc] 44) = u8 ∧ TenW u8 u6.heap.size (.int .i64 s.k) (.int .i64 s.tk) (.int .i64 s.ta) (.int .i64 s.e.k) (.int .i64 s.e.n) (.int .i64 s.e.ak) (.int .i64 s.e.at_) (.slice xa s.e.kids.length xc) (.slice ya s.th.length yc) (.slice za s.el.length zc) ∧ Below u7.heap.size u7 u8 ∧ u8.heap.size = u7.heap.size + 1 := ⟨_, rfl, by rw [← z7]; exact tenW_new _ _ _ _ _ _ _ _ _ _ _ _, (Below.refl _ _).alloc (Nat.le_refl _) _, by simp⟩
      have R8 := R7.below g8 (Nat.le_refl _)
      have G8 : Below w.heap.size w u8 := G7.trans (g8.mono (by omega))
      have TK8 : TK u8 (B + 1) u6.heap.size [(⟨s, xa, xc, ya, yc, za, zc⟩ : ShellT)] (fun _ => ⟨B + 1, u6.heap.size, B + 1, u2.heap.size, u3'.heap.size, u4.heap.size, u5.heap.size, u6.heap.size⟩) :=
        TK.one (q := ⟨s, xa, xc, ya, yc, za, zc⟩) (r := ⟨B + 1, u6.heap.size, B + 1, u2.heap.size, u3'.heap.size, u4.heap.size, u5.heap.size, u6.heap.size⟩) ((K7.under g8 (by omega)).wide (by show B + 1 ≤ _; omega) (by show _ ≤ u2.heap.size; omega)) (T7.under g8 (by omega)) (L7.under g8 (by omega)) ⟨by show B + 1 ≤ B + 1; omega, by show u6.heap.size ≤ u6.heap.size; omega, ⟨by show B + 1 ≤ B + 1; omega, by show u2.heap.size ≤ u6.heap.size; omega⟩, ⟨by show B + 1 ≤ u3'.heap.size; omega, by show u4.heap.size ≤ u6.heap.size; omega⟩, ⟨by show B + 1 ≤ u5.heap.size; omega, by show u6.heap.size ≤ u6.heap.size; omega⟩, .inl (by show u2.heap.size ≤ u3'.heap.size; omega), .inl (by show u2.heap.size ≤ u5.heap.size; omega), .inl (by show u4.heap.size ≤ u5.heap.size; omega)⟩
      have GR8 : GR shellTE u8 u6.heap.size (u6.heap.size + 1) (.slice (some ⟨u6.heap.size, 0, none⟩) 1 1) [(⟨s, xa, xc, ya, yc, za, zc⟩ : ShellT)] := gr_one (q := ⟨s, xa, xc, ya, yc, za, zc⟩) V8
      have hqn : qs.length = j := by have := congrArg List.length HQS.out; rw [List.length_map, List.length_take] at this; omega
      have hln : qs.length + [(⟨s, xa, xc, ya, yc, za, zc⟩ : ShellT)].length ≤ 16777216 := by simp; omega
      obtain ⟨d0, d1, d2, d3, d4, d5, d6, d7, d8, d9, df⟩ := id V6
      have f9 := df 9
      obtain ⟨h0, h1, h2, h3, h4, h5, h6, h7, h8, h9, _⟩ := id V7
      have HU7 : Hid (_ = u7) := hu7
      have HU8 : Hid (_ = u8) := hu8
      clear df b7 N7 K6 T6 OL R6 G6 hu8 K7 T7 L7 g8
      have hz8 : u7.heap.size = u6.heap.size := z7
      go_wp2_with (at_builtin; (try rw [HU7.out]); (try rw [HU8.out]); refine wpList_appG (E := shellTE) Tryz.underlying24 info_stmt rfl (by decide) rfl _ _ rfl w.heap.size u6.heap.size (u6.heap.size + 1) rfl rfl R8.row GR8 (by omega) hln ?_)
      intro v9 u9 hA
      have hgr := hA.grown
      have hAS : u8.heap.size ≤ u9.heap.size := hgr.size
      obtain ⟨rr, R9⟩ := R8.app hA TK8 (by omega) (by omega) (fun i hi => .inl (by have := HTB.out.2 i hi; omega)) (fun g hg => .inl (by have := HTB.out.1 g hg; omega)) hAS (fun k hk hne => grownBy_block hgr hk hne)
      have G9 : Below w.heap.size w u9 := G8.trans (hA.below R8.row (Nat.le_refl _) (by omega))
      have HN : Hid ((qs ++ [(⟨s, xa, xc, ya, yc, za, zc⟩ : ShellT)]).map ShellT.s = ss.take (j + 1) ∧ RowK u9 w.heap.size v9 (qs ++ [(⟨s, xa, xc, ya, yc, za, zc⟩ : ShellT)]) rr ∧ Below w.heap.size w u9) := ⟨by rw [List.map_append, HQS.out, List.take_add_one, HS.out]; rfl, R9, G9⟩
      clear hA hgr R8 R9 G8 G9 TK8 GR8 V6 V7 V8 R7 G7 d0 d1 d2 d3 d4 d5 d6 d7 d8 d9 f9 h0 h1 h2 h3 h4 h5 h6 h7 h8 h9 hu7
      go_wp2
      go_roundw
      case rel => exact ⟨j + 1, _, rr, by omega, by go_num, by omega, HN.out⟩
      case measure => simp [intOf]; omega
    · obtain rfl : j = ss.length := by omega
      have HO : Hid (SO wr w.heap.size wr.heap.size (.slice va vn vc) ss ∧ Below w.heap.size w wr) := ⟨by
        have h1 := HR.out.2.1.so (by omega)
        rw [HR.out.1, List.take_length] at h1
        exact h1, HR.out.2.2⟩
      clear HR
      go_wp2
      go_ret
      exact ⟨_, rfl, HO.out⟩

theorem copyT (n : Nat) : CopyT n := by
  induction n using Nat.strongRecOn with
  | ind n ih => exact copyT_step ih
end Go.Proofs.YtkeockippmmneaaGreat
