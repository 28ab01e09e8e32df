/-
  Draws of memories: l2MemBent.
-/
import Derived.Test.YtdhmioelmcdflaaDrawMem
import Derived.Test.YtdhmioelmcdflaaAppend
namespace Go.Proofs.Ytdhmioelmcdflaa
open Go.ChangeShapes Go.WideShapes Go.ChangeAt Go.RowKit
set_option linter.unusedVariables false
set_option maxRecDepth 100000

theorem SI.at_ {u u' : World} {lo hi lo' hi' : Nat} {v : Value} {xs : List Int} (h : SI u lo hi v xs) (hk : ∀ k, lo ≤ k → k < hi → u'.heap[k]? = u.heap[k]?) (h1 : lo' ≤ lo) (h2 : hi ≤ hi') : SI u' lo' hi' v xs := (h.kept hk).wide h1 h2

theorem own_shape {u : World} {base t n : Nat} {v : Value} {xs : List Value} (h : u.ownsRow base t 1 v n xs) (hn : 0 < n) : ∃ g c, v = .slice (some ⟨g, 0, none⟩) n c := by
  rcases h.2 with ⟨_, h0⟩ | ⟨g, c, cur, rfl, _⟩
  · omega
  · exact ⟨g, c, rfl⟩

/-- The answer is stored into the block of the result. -/
theorem mem_ret {n0 B : Nat} {a : Option Addr} {len cap : Nat} {q q' : Int} {w u : World} {x y z : Value} {xa xb xc : List Int} (hB : B < w.heap.size) (hs : w.heap.size < u.heap.size) (hr : RdQ n0 B a len cap q u) (hq : q ≤ q') (ha : Aside B w u) (hres : Three u w.heap.size (.slice none 0 0) (.slice none 0 0) (.slice none 0 0))
    (h1 : SI u (w.heap.size + 1) u.heap.size x xa) (h2 : SI u (w.heap.size + 1) u.heap.size y xb) (h3 : SI u (w.heap.size + 1) u.heap.size z xc) (l1 : xa.length ≤ 7) (l2 : xb.length ≤ 7) (l3 : xc.length ≤ 7) :
    ∃ u9, ((u.setCell ⟨w.heap.size, 0, none⟩ x).setCell ⟨w.heap.size, 1, none⟩ y).setCell ⟨w.heap.size, 2, none⟩ z = u9 ∧ Three u9 w.heap.size x y z ∧
      ∃ m d, Ending.returned (.agg #[x, y, z]) = .returned m ∧ MI u9 w.heap.size u9.heap.size m d ∧ d.many ≤ 21 ∧ RdQ n0 B a len cap q' u9 ∧ Aside B w u9 := by
  obtain ⟨u9, hu9, T9, N9, S9, B9⟩ := three_store hres x y z
  refine ⟨u9, hu9, T9, _, ⟨xa, xb, xc⟩, rfl, ⟨x, y, z, rfl, ?_, ?_, ?_⟩, ?_, ?_, ?_⟩
  · exact h1.at_ (fun k a b => N9 k (by omega)) (by omega) (by omega)
  · exact h2.at_ (fun k a b => N9 k (by omega)) (by omega) (by omega)
  · exact h3.at_ (fun k a b => N9 k (by omega)) (by omega) (by omega)
  · unfold MemD.many; show xa.length + xb.length + xc.length ≤ 21; omega
  · exact (hr.block (by omega) fun k hk => N9 k (by omega)).mono hq
  · rw [← hu9]; exact ((ha.setNew (Nat.le_refl _) _).setNew (Nat.le_refl _) _).setNew (Nat.le_refl _) _

set_option maxHeartbeats 8000000 in
theorem l2MemBent_any (n0 : Nat) (w : World) (B : Nat) (a : Option Addr) (len cap : Nat) (q : Int) (h : RdQ n0 B a len cap q w) (hq : q + 30 < 1000000) :
    Calls Try.prog 37 #[.pointer (some ⟨B, 0, none⟩)] w fun e w' => ∃ m d, e = .returned m ∧ MI w' w.heap.size w'.heap.size m d ∧ d.many ≤ 21 ∧ RdQ n0 B a len cap (q + 30) w' ∧ Aside B w w' := by
  have hB := h.hi
  obtain ⟨u0, hu0, A0, R0, S0, P0⟩ : ∃ u0, w.alloc (.cells #[.slice none 0 0, .slice none 0 0, .slice none 0 0] 30) = u0 ∧ Aside B w u0 ∧ RdQ n0 B a len cap q u0 ∧ u0.heap.size = w.heap.size + 1 ∧ Three u0 w.heap.size (.slice none 0 0) (.slice none 0 0) (.slice none 0 0) :=
    ⟨_, rfl, aside_alloc _ _ _, h.kept ((Below.refl _ _).alloc (Nat.le_refl _) _), by simp, three_new _ _ _ _ _⟩
  go_enter Try.func37, Try.ntmps37
  go_wp2_with fail
  clear hu0
  refine (l2Mem_any n0 _ B a len cap _ R0 (by omega)).mono ?_
  rintro e u1 ⟨ga, gb, gc, rfl, ⟨s1, s2, s3⟩, l1, l2, l3, R1, A1⟩
  have S1 := A1.size
  obtain ⟨V, hV⟩ : ∃ V, u1.heap.size = V := ⟨_, rfl⟩
  obtain ⟨u2, hu2, hI⟩ : ∃ u2, u1.alloc (.cells #[.slice (some ⟨ga, 0, none⟩) 6 6, .slice (some ⟨gb, 0, none⟩) 6 6, .slice (some ⟨gc, 0, none⟩) 6 6] 30) = u2 ∧ MemI n0 B a len cap (q + 20) w V u2 ga gb gc := by
    have g2 := (Below.refl u1.heap.size u1).alloc (Nat.le_refl _) (.cells #[.slice (some ⟨ga, 0, none⟩) 6 6, .slice (some ⟨gb, 0, none⟩) 6 6, .slice (some ⟨gc, 0, none⟩) 6 6] 30)
    have T2 := three_new u1 (.slice (some ⟨ga, 0, none⟩) 6 6) (.slice (some ⟨gb, 0, none⟩) 6 6) (.slice (some ⟨gc, 0, none⟩) 6 6) 30
    rw [hV] at T2
    exact ⟨_, rfl, T2, (P0.at_ (A1.at_ (by omega) (by omega))).at_ (g2.block _ (by omega)), s1.at_ (g2.block _ (by omega)), s2.at_ (g2.block _ (by omega)), s3.at_ (g2.block _ (by omega)), R1.kept g2, (A0.trans A1).trans (aside_of g2), by rw [World.size_alloc]; omega⟩
  clear A0 R0 P0 s1 s2 s3 A1 R1
  go_wp2_with fail
  clear hu2 hV
  refine (pickQ n0 _ B a len cap _ 30 hI.rd (by omega) (by omega) (by omega)).mono ?_
  rintro e1 u3 ⟨r, rfl, hr0, hr1, R3, A3⟩
  have HI : Hid (MemI n0 B a len cap (q + 20 + 1) w V u3 ga gb gc) := hI.asideB hB A3 R3
  clear hI R3 A3
  have hl := HI.out.lt
  by_cases h0 : r = 0
  · subst h0
    have hI := HI.out
    obtain ⟨xa, la, ha⟩ := six_si (n := 2) hI.sa (lo := w.heap.size + 1) (hi := V) (by omega) (by omega) (by omega)
    obtain ⟨xb, lb, hb⟩ := six_si (n := 6) hI.sb (lo := w.heap.size + 1) (hi := V) (by omega) (by omega) (by omega)
    obtain ⟨xc, lc, hc⟩ := six_si (n := 6) hI.sc (lo := w.heap.size + 1) (hi := V) (by omega) (by omega) (by omega)
    have v0 := hI.var.c0
    have vf := hI.var.f 0
    obtain ⟨u4, hu4⟩ : ∃ u4, u3.setCell ⟨V, 0, none⟩ (.slice (some ⟨ga, 0, none⟩) 2 6) = u4 := ⟨_, rfl⟩
    have S4 : u4.heap.size = u3.heap.size := by rw [← hu4]; simp
    have N4 : ∀ k, k ≠ V → u4.heap[k]? = u3.heap[k]? := fun k hk => by rw [← hu4]; exact Below.heap_setCell _ _ _ _ hk
    have HV4 : Hid (Three u4 V (.slice (some ⟨ga, 0, none⟩) 2 6) (.slice (some ⟨gb, 0, none⟩) 6 6) (.slice (some ⟨gc, 0, none⟩) 6 6)) := by have h9 := hI.var.set0 (.slice (some ⟨ga, 0, none⟩) 2 6); rw [hu4] at h9; exact h9
    have HR4 : Hid (Three u4 w.heap.size (.slice none 0 0) (.slice none 0 0) (.slice none 0 0)) := hI.res.at_ (N4 _ (by omega))
    have HA : Hid (SI u4 (w.heap.size + 1) u4.heap.size (.slice (some ⟨ga, 0, none⟩) 2 6) xa) := ha.at_ (fun k h1 h2 => N4 k (by omega)) (Nat.le_refl _) (by omega)
    have HBb : Hid (SI u4 (w.heap.size + 1) u4.heap.size (.slice (some ⟨gb, 0, none⟩) 6 6) xb) := hb.at_ (fun k h1 h2 => N4 k (by omega)) (Nat.le_refl _) (by omega)
    have HC : Hid (SI u4 (w.heap.size + 1) u4.heap.size (.slice (some ⟨gc, 0, none⟩) 6 6) xc) := hc.at_ (fun k h1 h2 => N4 k (by omega)) (Nat.le_refl _) (by omega)
    have HRD : Hid (RdQ n0 B a len cap (q + 20 + 1) u4) := hI.rd.block (by omega) fun k hk => N4 k (by omega)
    have HAS : Hid (Aside B w u4) := by have h9 := hI.aside.setNew (b := V) (o := 0) (by omega) (.slice (some ⟨ga, 0, none⟩) 2 6); rw [hu4] at h9; exact h9
    have HU4 : Hid (u3.setCell ⟨V, 0, none⟩ (.slice (some ⟨ga, 0, none⟩) 2 6) = u4) := hu4
    have la' : xa.length ≤ 7 := by omega
    have lb' : xb.length ≤ 7 := by omega
    have lc' : xc.length ≤ 7 := by omega
    clear hI ha hb hc HI N4 la lb lc
    obtain ⟨u9, hu9, T9, HX9⟩ := mem_ret (q' := q + 30) hB (by omega) HRD.out (by omega) HAS.out HR4.out HA.out HBb.out HC.out la' lb' lc'
    have HU : Hid (_ = u9) := hu9
    have HT : Hid (Three u9 w.heap.size _ _ _) := T9
    obtain ⟨c0, c1, c2, ff⟩ := HR4.out
    obtain ⟨y0, y1, y2, _⟩ := HV4.out
    have f0 := ff 0
    have f1 := ff 1
    have f2 := ff 2
    clear ff hu9 T9
    go_wp2
    rw [HU.out]
    obtain ⟨r0, r1, r2, _⟩ := HT.out
    exact bodyPost_ret (v := .agg #[.slice (some ⟨ga, 0, none⟩) 2 6, .slice (some ⟨gb, 0, none⟩) 6 6, .slice (some ⟨gc, 0, none⟩) 6 6]) (by simp [results, Try.results37, go_sem, r0, r1, r2]) rfl (by obtain ⟨v, e, h1, h2⟩ := HX9; first | exact ⟨v, e, h1, h2⟩ | exact ⟨v, h1, e, h2⟩)
  have e0 : (r == 0) = false := by simp [h0]
  by_cases h1 : r = 1
  · subst h1
    have hI := HI.out
    obtain ⟨x9, hx9⟩ := hI.sc.c 0 (by omega)
    have hf9 := hI.sc.f 0
    have v2 := hI.var.c2
    obtain ⟨u4, hu4⟩ : ∃ u4, u3.setCell ⟨gc, 0, none⟩ (.int .i64 1000001) = u4 := ⟨_, rfl⟩
    have S4 : u4.heap.size = u3.heap.size := by rw [← hu4]; simp
    have hI4 : MemI n0 B a len cap (q + 20 + 1) w V u4 ga gb gc := by rw [← hu4]; exact hI.set hB gc 0 (by omega) _
    have HI4 : Hid (MemI n0 B a len cap (q + 20 + 1) w V u4 ga gb gc) := hI4
    obtain ⟨xa, la, ha⟩ := six_si (n := 6) hI4.sa (lo := w.heap.size + 1) (hi := u4.heap.size) (by omega) (by omega) (by omega)
    obtain ⟨xb, lb, hb⟩ := six_si (n := 6) hI4.sb (lo := w.heap.size + 1) (hi := u4.heap.size) (by omega) (by omega) (by omega)
    obtain ⟨xc, lc, hc⟩ := six_si (n := 6) hI4.sc (lo := w.heap.size + 1) (hi := u4.heap.size) (by omega) (by omega) (by omega)
    have HA : Hid (SI u4 (w.heap.size + 1) u4.heap.size (.slice (some ⟨ga, 0, none⟩) 6 6) xa) := ha
    have HBb : Hid (SI u4 (w.heap.size + 1) u4.heap.size (.slice (some ⟨gb, 0, none⟩) 6 6) xb) := hb
    have HC : Hid (SI u4 (w.heap.size + 1) u4.heap.size (.slice (some ⟨gc, 0, none⟩) 6 6) xc) := hc
    have la' : xa.length ≤ 7 := by omega
    have lb' : xb.length ≤ 7 := by omega
    have lc' : xc.length ≤ 7 := by omega
    clear hI hI4 ha hb hc HI la lb lc
    obtain ⟨u9, hu9, T9, HX9⟩ := mem_ret (q' := q + 30) hB (by omega) HI4.out.rd (by omega) HI4.out.aside HI4.out.res HA.out HBb.out HC.out la' lb' lc'
    have HU : Hid (_ = u9) := hu9
    have HT : Hid (Three u9 w.heap.size _ _ _) := T9
    obtain ⟨c0, c1, c2, ff⟩ := HI4.out.res
    obtain ⟨y0, y1, y2, _⟩ := HI4.out.var
    have f0 := ff 0
    have f1 := ff 1
    have f2 := ff 2
    clear ff hu9 T9
    go_wp2
    rw [HU.out]
    obtain ⟨r0, r1, r2, _⟩ := HT.out
    exact bodyPost_ret (v := .agg #[.slice (some ⟨ga, 0, none⟩) 6 6, .slice (some ⟨gb, 0, none⟩) 6 6, .slice (some ⟨gc, 0, none⟩) 6 6]) (by simp [results, Try.results37, go_sem, r0, r1, r2]) rfl (by obtain ⟨v, e, h1, h2⟩ := HX9; first | exact ⟨v, e, h1, h2⟩ | exact ⟨v, h1, e, h2⟩)
  have e1 : (r == 1) = false := by simp [h1]
  by_cases h2 : r = 2
  · subst h2
    have hI := HI.out
    obtain ⟨xb, lb, hb⟩ := six_si (n := 6) hI.sb (lo := w.heap.size + 1) (hi := V) (by omega) (by omega) (by omega)
    obtain ⟨i0, hi0, hz0, hz1, hz2⟩ := info_parts info_int
    have v1 := hI.var.c1
    have g1 := (Below.refl u3.heap.size u3).alloc (Nat.le_refl _) (.cells #[.int .i64 0] 3)
    have hold : ∀ b, some (⟨gb, 0, none⟩ : Addr) = some b → ∀ j z, (xb.map (Value.int .i64))[j]? = some z → (u3.alloc (.cells #[.int .i64 0] 3)).cell? (b.add j) = some z := by
      intro b eb j z hz
      obtain rfl := Option.some.inj eb
      rw [List.getElem?_map] at hz
      obtain ⟨x, hx, rfl⟩ := Option.map_eq_some_iff.mp hz
      have hadd : (⟨gb, 0, none⟩ : Addr).add j = ⟨gb, j, none⟩ := by unfold Addr.add; split <;> simp_all
      rw [hadd, g1.cell (p := ⟨gb, j, none⟩) (by show gb < _; omega)]
      obtain ⟨ad, cp, he, _, _, h3⟩ := hb
      rcases h3 with h0 | ⟨b', o', rfl, _, _, hc⟩
      · rw [h0] at hx; simp at hx
      · simp only [Value.slice.injEq, Option.some.injEq, Addr.mk.injEq] at he
        obtain ⟨⟨rfl, rfl, _⟩, _, _⟩ := he
        have := hc j x hx
        rwa [Nat.zero_add] at this
    have hnew : ∀ j z, [Value.int .i64 0][j]? = some z → (u3.alloc (.cells #[.int .i64 0] 3)).cell? ((⟨u3.heap.size, 0, none⟩ : Addr).add j) = some z := fun j z hz => by
      cases j with
      | zero => simp at hz; subst hz; simp [Addr.add, World.cell?_alloc_new]
      | succ j => simp at hz
    have HO := hold
    have hlb : (xb.map (Value.int .i64)).length = 6 * 1 := by simp [lb]
    clear hb
    go_wp2_with (at_builtin; refine wpList_append_grows _ rfl _ _ 28 rfl 3 i0 (.int .i64 0) 1 8 Try.underlying28 hi0 hz0 hz1 hz2 rfl (by decide) (some ⟨gb, 0, none⟩) 6 6 (xb.map (Value.int .i64)) rfl (fun h => by cases h) hlb hold ⟨u3.heap.size, 0, none⟩ 1 1 [.int .i64 0] rfl rfl hnew (by intro z hz; simp at hz; subst hz; rfl) (by omega) (by unfold maxLen; omega) (by omega) ?_; intro v' u4 hown hgrow; obtain ⟨g9, c9, hv9⟩ : ∃ g c, v' = .slice (some ⟨g, 0, none⟩) 7 c := own_shape hown (by omega); rw [hv9] at hown; rw [hv9]; have gg := g1.trans ((below_grown hgrow).mono (by simp)); have kV := HI.out.var.at_ (gg.block V hl.1); have kR := HI.out.res.at_ (gg.block w.heap.size (by omega)); have k0 := kV.c0; have k1 := kV.c1; have k2 := kV.c2; have kf := kV.f 1; have t0 := kR.c0; have t1 := kR.c1; have t2 := kR.c2; have tf0 := kR.f 0; have tf1 := kR.f 1; have tf2 := kR.f 2; have hne : ¬ V = w.heap.size := (by omega); have hne2 : ¬ w.heap.size = V := (by omega); clear kV kR)
    clear hold hnew HO hI
    obtain ⟨u5, hu5⟩ : ∃ u5, u4.setCell ⟨V, 1, none⟩ (.slice (some ⟨g9, 0, none⟩) 7 c9) = u5 := ⟨_, rfl⟩
    have hgs := gg.size
    have hgs2 : u3.heap.size + 1 ≤ u4.heap.size := by have := (below_grown hgrow).size; simpa using this
    have S5 : u5.heap.size = u4.heap.size := by rw [← hu5]; simp
    have N5 : ∀ k, k ≠ V → u5.heap[k]? = u4.heap[k]? := fun k hk => by rw [← hu5]; exact Below.heap_setCell _ _ _ _ hk
    have NN : ∀ k, k ≠ V → k < u3.heap.size → u5.heap[k]? = u3.heap[k]? := fun k hk h2 => by rw [N5 k hk, gg.block k h2]
    have hI := HI.out
    obtain ⟨xa, la, ha⟩ := six_si (n := 6) hI.sa (lo := w.heap.size + 1) (hi := V) (by omega) (by omega) (by omega)
    obtain ⟨xc, lc, hc⟩ := six_si (n := 6) hI.sc (lo := w.heap.size + 1) (hi := V) (by omega) (by omega) (by omega)
    have hoi := oi_of_owns (xs := xb ++ [0]) (by simpa [lb] using hown)
    have HA : Hid (SI u5 (w.heap.size + 1) u5.heap.size (.slice (some ⟨ga, 0, none⟩) 6 6) xa) := ha.at_ (fun k h1 h2 => NN k (by omega) (by omega)) (Nat.le_refl _) (by omega)
    have HC : Hid (SI u5 (w.heap.size + 1) u5.heap.size (.slice (some ⟨gc, 0, none⟩) 6 6) xc) := hc.at_ (fun k h1 h2 => NN k (by omega) (by omega)) (Nat.le_refl _) (by omega)
    have HBb : Hid (SI u5 (w.heap.size + 1) u5.heap.size (.slice (some ⟨g9, 0, none⟩) 7 c9) (xb ++ [0])) := hoi.si.at_ (fun k h1 h2 => N5 k (by omega)) (by omega) (by omega)
    have HV5 : Hid (Three u5 V (.slice (some ⟨ga, 0, none⟩) 6 6) (.slice (some ⟨g9, 0, none⟩) 7 c9) (.slice (some ⟨gc, 0, none⟩) 6 6)) := by have h9 := (hI.var.at_ (gg.block V hl.1)).set1 (.slice (some ⟨g9, 0, none⟩) 7 c9); rw [hu5] at h9; exact h9
    have HR5 : Hid (Three u5 w.heap.size (.slice none 0 0) (.slice none 0 0) (.slice none 0 0)) := hI.res.at_ (NN _ (by omega) (by omega))
    have HRD : Hid (RdQ n0 B a len cap (q + 20 + 1) u5) := hI.rd.block (by omega) fun k hk => NN k (by omega) (by omega)
    have HAS : Hid (Aside B w u5) := by have h9 := (hI.aside.trans (aside_of gg)).setNew (b := V) (o := 1) (by omega) (.slice (some ⟨g9, 0, none⟩) 7 c9); rw [hu5] at h9; exact h9
    have la' : xa.length ≤ 7 := by omega
    have lb' : (xb ++ [0]).length ≤ 7 := by simp; omega
    have lc' : xc.length ≤ 7 := by omega
    obtain ⟨u9, hu9, T9, HX9⟩ := mem_ret (q' := q + 30) hB (by omega) HRD.out (by omega) HAS.out HR5.out HA.out HBb.out HC.out la' lb' lc'
    rw [hu5, hu9]
    obtain ⟨r0, r1, r2, _⟩ := T9
    exact bodyPost_ret (v := .agg #[.slice (some ⟨ga, 0, none⟩) 6 6, .slice (some ⟨g9, 0, none⟩) 7 c9, .slice (some ⟨gc, 0, none⟩) 6 6]) (by simp [results, Try.results37, go_sem, r0, r1, r2]) rfl (by obtain ⟨v, e, h1, h2⟩ := HX9; first | exact ⟨v, e, h1, h2⟩ | exact ⟨v, h1, e, h2⟩)
  have e2 : (r == 2) = false := by simp [h2]
  clear h0 h1 h2
  have hI := HI.out
  obtain ⟨xa, la, ha⟩ := six_si (n := 6) hI.sa (lo := w.heap.size + 1) (hi := u3.heap.size) (by omega) (by omega) (by omega)
  obtain ⟨xb, lb, hb⟩ := six_si (n := 6) hI.sb (lo := w.heap.size + 1) (hi := u3.heap.size) (by omega) (by omega) (by omega)
  obtain ⟨xc, lc, hc⟩ := six_si (n := 6) hI.sc (lo := w.heap.size + 1) (hi := u3.heap.size) (by omega) (by omega) (by omega)
  have HA : Hid (SI u3 (w.heap.size + 1) u3.heap.size (.slice (some ⟨ga, 0, none⟩) 6 6) xa) := ha
  have HBb : Hid (SI u3 (w.heap.size + 1) u3.heap.size (.slice (some ⟨gb, 0, none⟩) 6 6) xb) := hb
  have HC : Hid (SI u3 (w.heap.size + 1) u3.heap.size (.slice (some ⟨gc, 0, none⟩) 6 6) xc) := hc
  have la' : xa.length ≤ 7 := by omega
  have lb' : xb.length ≤ 7 := by omega
  have lc' : xc.length ≤ 7 := by omega
  clear hI ha hb hc la lb lc
  obtain ⟨u9, hu9, T9, HX9⟩ := mem_ret (q' := q + 30) hB (by omega) HI.out.rd (by omega) HI.out.aside HI.out.res HA.out HBb.out HC.out la' lb' lc'
  have HU : Hid (_ = u9) := hu9
  have HT : Hid (Three u9 w.heap.size _ _ _) := T9
  obtain ⟨c0, c1, c2, ff⟩ := HI.out.res
  obtain ⟨y0, y1, y2, _⟩ := HI.out.var
  have f0 := ff 0
  have f1 := ff 1
  have f2 := ff 2
  clear ff hu9 T9
  go_wp2
  rw [HU.out]
  obtain ⟨r0, r1, r2, _⟩ := HT.out
  exact bodyPost_ret (v := .agg #[.slice (some ⟨ga, 0, none⟩) 6 6, .slice (some ⟨gb, 0, none⟩) 6 6, .slice (some ⟨gc, 0, none⟩) 6 6]) (by simp [results, Try.results37, go_sem, r0, r1, r2]) rfl (by obtain ⟨v, e, h1, h2⟩ := HX9; first | exact ⟨v, e, h1, h2⟩ | exact ⟨v, h1, e, h2⟩)
end Go.Proofs.Ytdhmioelmcdflaa
