/-
  markTransS, markActS, markChart: the laws' helpers that write into a chart. (Written by our generator gen_chartmark.py.)
-/
import Derived.Test.YtokphdpaghkakaaGreatM1
import Derived.Test.YtokphdpaghkakaaGreatM3
namespace Go.Proofs.YtokphdpaghkakaaGreat
open Go.ChangeShapes Go.WideShapes Go.ChangeAt Go.RowKit
set_option linter.unusedVariables false
set_option linter.unusedSimpArgs false
set_option maxRecDepth 100000


set_option maxHeartbeats 8000000 in
theorem markActS_any (w : World) (lo hi : Nat) (v : Value) (ps : List ActD) (k : Int) (h : GO actE w lo hi v ps) (hhi : hi ≤ w.heap.size) (hx : ps.length ≤ 1048576) (hk : 0 ≤ k) (hk' : k ≤ 1000000000000) :
    Calls Tryz.prog 50 #[v, .int .i64 k] w fun e w' => e = .returned (.int .i64 (k + 4 * (ps.length : Int))) ∧ Out lo hi w w' := by
  rcases h with ⟨rfl, a, cap, rfl, hm⟩ | ⟨g, off, cap, rfl, h1, h2, h3, h4, h5, h6⟩
  · unfold maxLen at hm
    go_enter Tryz.func50, Tryz.ntmps50
    go_wp2
    go_loopw [1, 5] (fun q i wr => q = .int .i64 k ∧ i = .int .i64 0 ∧ wr = w) (fun _ _ _ => 0)
    case atStart => exact ⟨rfl, rfl, rfl⟩
    case round =>
      obtain ⟨rfl, rfl, rfl⟩ := hrel
      go_wp2
      go_ret
      exact ⟨by simp, ⟨rfl, rfl, rfl, Nat.le_refl _, fun _ _ _ => rfl⟩⟩
  · have hI : Room w g off (ps.length * 4) w := room_of (E := actE) hhi h4 h5 h6 (fun _ => rfl) (by decide)
    unfold maxLen at h2
    clear h5 h6
    go_enter Tryz.func50, Tryz.ntmps50
    go_wp2
    go_loopw [1, 5] (fun q i wr => ∃ j : Nat, j ≤ ps.length ∧ q = .int .i64 (k + 4 * (j : Int)) ∧ i = .int .i64 j ∧ Room w g off (ps.length * 4) wr) (fun _ i _ => ps.length - (intOf i).toNat)
    case atStart => exact ⟨0, Nat.zero_le _, by simp, rfl, hI⟩
    case round =>
      clear hI
      obtain ⟨j, hj, rfl, rfl, hI⟩ := hrel
      by_cases hlt : j < ps.length
      · have hlt' : (j : Int) < (ps.length : Int) := by omega
        have hM : 0 ≤ k + 4 * (j : Int) ∧ k + 4 * (j : Int) ≤ 1000100000000 := by omega
        have HS : Hid (k + 4 * (j : Int) + 4 = k + 4 * ((j + 1 : Nat) : Int)) := by show _ = _; omega
        generalize k + 4 * (j : Int) = M at *
        go_wp2_with (refine wpList_store1G Tryz.sizeOf3 _ _ rfl rfl rfl rfl rfl rfl (hI.some_ _ (by omega) (by omega)) (hI.fz _ (by omega)) ?_)
        intro u0 L0
        have I0 := hI.next L0
        clear hI L0
        go_wp2_with (refine wpList_store1G Tryz.sizeOf3 _ _ rfl rfl rfl rfl rfl rfl (I0.some_ _ (by omega) (by omega)) (I0.fz _ (by omega)) ?_)
        intro u1 L1
        have I1 := I0.next L1
        clear I0 L1
        go_wp2_with (refine wpList_store1G Tryz.sizeOf3 _ _ rfl rfl rfl rfl rfl rfl (I1.some_ _ (by omega) (by omega)) (I1.fz _ (by omega)) ?_)
        intro u2 L2
        have I2 := I1.next L2
        clear I1 L2
        go_wp2_with (refine wpList_store1G Tryz.sizeOf3 _ _ rfl rfl rfl rfl rfl rfl (I2.some_ _ (by omega) (by omega)) (I2.fz _ (by omega)) ?_)
        intro u3 L3
        have I3 := I2.next L3
        clear I2 L3
        go_wp2
        go_roundw
        case rel => exact ⟨j + 1, by omega, by rw [← HS.out]; congr 1; omega, by go_num, I3⟩
        case measure => simp [intOf]; omega
      · obtain rfl : j = ps.length := by omega
        have HN : Out lo hi w wr := ⟨hI.out.os, hI.out.tape, hI.out.output, hI.out.size, fun q hq hr => hI.out.block q hq (by omega)⟩
        clear hI
        go_wp2
        go_ret
        exact ⟨rfl, HN⟩

/-- What is left of owned ways as those ahead of j have been marked. -/
structure RestT (w : World) (lo hi b off : Nat) (ts : List TransD) (xs ys ss : Nat → Value) (l m n h : Nat → Nat) (j : Nat) (wr : World) : Prop where
  out : Out lo hi w wr
  ways : ∀ (i : Nat) (t : TransD), j ≤ i → ts[i]? = some t → CV wr b (off + i * 7) (transC (xs i) (ys i) t.e (ss i)) ∧ WayO wr (l i) (m i) (n i) (h i) (xs i) (ys i) (ss i) t
  fz : ∀ o, wr.frozen? ⟨b, off + o, none⟩ = false

theorem RestT.more {w wr : World} {lo hi b off : Nat} {ts : List TransD} {xs ys ss : Nat → Value} {l m n h : Nat → Nat} {j : Nat} (R : RestT w lo hi b off ts xs ys ss l m n h j wr) : RestT w lo hi b off ts xs ys ss l m n h (j + 1) wr :=
  ⟨R.out, fun i t hi ht => R.ways i t (by omega) ht, R.fz⟩
/-- A call that writes within way j. -/
theorem RestT.call {w wr u : World} {lo hi b off : Nat} {ts : List TransD} {xs ys ss : Nat → Value} {l m n h : Nat → Nat} {j lo' hi' : Nat} (R : RestT w lo hi b off ts xs ys ss l m n h (j + 1) wr) (g : Out lo' hi' wr u) (hj : j < ts.length)
    (hin : ∀ i, i < ts.length → b < l i ∧ h i ≤ hi) (hord : ∀ i i', i < i' → i' < ts.length → h i ≤ l i') (h1 : l j ≤ lo') (h2 : hi' ≤ h j) (hb : lo ≤ b) (hbh : b < hi) (hs : hi ≤ w.heap.size) : RestT w lo hi b off ts xs ys ss l m n h (j + 1) u := by
  have hjj := hin j hj
  have hsz := R.out.size
  have hbu : u.heap[b]? = wr.heap[b]? := g.block b (by omega) (by omega)
  refine ⟨R.out.trans (g.widen (by omega) (by omega)), fun i t hi ht => ?_, fun o => by rw [World.frozen?_of_block (w := wr) hbu]; exact R.fz o⟩
  have hil := (List.getElem?_eq_some_iff.mp ht).1
  have h3 := hord j i (by omega) hil
  have h4 := hin i hil
  exact ⟨(R.ways i t hi ht).1.kept hbu, (R.ways i t hi ht).2.kept fun k q1 q2 => g.block k (by omega) (by omega)⟩
/-- A store into way j's own cells. -/
theorem RestT.store {w wr u : World} {lo hi b off : Nat} {ts : List TransD} {xs ys ss : Nat → Value} {l m n h : Nat → Nat} {j x : Nat} {z : Value} (R : RestT w lo hi b off ts xs ys ss l m n h (j + 1) wr) (hL : LaidG wr u b x [z]) (hx : x < off + (j + 1) * 7)
    (hin : ∀ i, i < ts.length → b < l i ∧ h i ≤ hi) (hb : lo ≤ b) (hbh : b < hi) : RestT w lo hi b off ts xs ys ss l m n h (j + 1) u := by
  have hbz := hL.below 0 wr (Nat.zero_le _) (Below.refl _ _)
  refine ⟨R.out.trans ⟨hbz.os, hbz.tape, hbz.output, by rw [hL.size]; exact Nat.le_refl _, fun k hk hr => hL.block k (by omega)⟩, fun i t hi ht => ⟨?_, ?_⟩, fun o => by rw [hL.frozen]; exact R.fz o⟩
  · intro p v hp
    rw [hL.cell _ _ (.inr (.inr (by simp only [List.length_cons, List.length_nil]; omega)))]
    exact (R.ways i t hi ht).1 p v hp
  · have hil := (List.getElem?_eq_some_iff.mp ht).1
    have h4 := hin i hil
    exact (R.ways i t hi ht).2.kept fun k q1 q2 => hL.block k (by omega)

set_option maxHeartbeats 16000000 in
theorem markTransS_any (w : World) (lo hi : Nat) (v : Value) (ts : List TransD) (k : Int) (hT : TO w lo hi v ts) (hhi : hi ≤ w.heap.size) (hx : manyT ts ≤ 1048576) (hk : 0 ≤ k) (hk' : k ≤ 1000000) :
    Calls Tryz.prog 49 #[v, .int .i64 k] w fun e w' => ∃ z, e = .returned (.int .i64 z) ∧ 0 ≤ z ∧ z ≤ 10000000 ∧ Out lo hi w w' := by
  rcases hT with ⟨rfl, ad, cap, rfl, hm⟩ | ⟨b, off, cap, xs, ys, ss, l, m, n, h, rfl, h1, h2, h3, h4, hO⟩
  · unfold maxLen at hm
    go_enter Tryz.func49, Tryz.ntmps49
    go_wp2
    go_loopw [1, 5] (fun q i wr => q = .int .i64 k ∧ i = .int .i64 0 ∧ wr = w) (fun _ _ _ => 0)
    case atStart => exact ⟨rfl, rfl, rfl⟩
    case round =>
      obtain ⟨rfl, rfl, rfl⟩ := hrel
      go_wp2
      go_ret
      exact ⟨k, rfl, hk, by omega, ⟨rfl, rfl, rfl, Nat.le_refl _, fun _ _ _ => rfl⟩⟩
  · have hin := hO.in_
    have hord := hO.ord
    have hI : RestT w lo hi b off ts xs ys ss l m n h 0 w := ⟨⟨rfl, rfl, rfl, Nat.le_refl _, fun _ _ _ => rfl⟩, fun i t _ ht => hO.way i t ht, hO.fz⟩
    have HI0 : Hid ((∀ i, i < ts.length → b < l i ∧ h i ≤ hi) ∧ ∀ i i', i < i' → i' < ts.length → h i ≤ l i') := ⟨hin, hord⟩
    have HXX : Hid (manyT ts ≤ 1048576) := hx
    unfold maxLen at h2
    clear hO hin hord hx
    go_enter Tryz.func49, Tryz.ntmps49
    go_wp2
    go_loopw [1, 5] (fun q i wr => ∃ (j : Nat) (z : Int), j ≤ ts.length ∧ q = .int .i64 z ∧ 0 ≤ z ∧ z ≤ k + 4 * (manyT (ts.take j) : Int) ∧ i = .int .i64 j ∧ RestT w lo hi b off ts xs ys ss l m n h j wr) (fun _ i _ => ts.length - (intOf i).toNat)
    case atStart => exact ⟨0, k, Nat.zero_le _, rfl, hk, by simp [manyT], rfl, hI⟩
    case round =>
      clear hI
      obtain ⟨j, z, hj, rfl, hz0, hz1, rfl, hI⟩ := hrel
      by_cases hlt : j < ts.length
      · obtain ⟨t, ht⟩ : ∃ t, ts[j]? = some t := ⟨ts[j], List.getElem?_eq_getElem hlt⟩
        have hlt' : (j : Int) < (ts.length : Int) := by omega
        have htk := manyT_take_succ ht
        have htl := manyT_take_le ts (j + 1)
        have hxx := HXX.out
        unfold TransD.many at htk
        have HTK : Hid (manyT (ts.take (j + 1)) = manyT (ts.take j) + (t.fr.length + t.to.length + manyL t.e.kids) + 1) := htk
        have hzb : z ≤ 5300000 := by omega
        have hfr : t.fr.length ≤ 1048576 := by omega
        have hto : t.to.length ≤ 1048576 := by omega
        have hkd : manyL t.e.kids ≤ 1048576 := by omega
        have hzall : z + (t.fr.length : Int) + (t.to.length : Int) + 4 + 4 * (manyL t.e.kids : Int) ≤ k + 4 * (manyT (ts.take (j + 1)) : Int) := by omega
        have HZA : Hid (z + (t.fr.length : Int) + (t.to.length : Int) + 4 + 4 * (manyL t.e.kids : Int) ≤ k + 4 * (manyT (ts.take (j + 1)) : Int) ∧ manyT (ts.take (j + 1)) ≤ 1048576) := ⟨hzall, by omega⟩
        clear htk htl hxx hzall hz1
        obtain ⟨hcv, hw⟩ := hI.ways j t (Nat.le_refl _) ht
        obtain ⟨ofr, oto, oe, hle⟩ := hw
        have hjj := HI0.out.1 j hlt
        have hsz := hI.out.size
        replace hI := hI.more
        obtain ⟨ax, cx, hvx⟩ : ∃ a c, xs j = .slice a t.fr.length c := by obtain ⟨a, c, hv, _⟩ := ofr.si; exact ⟨a, c, hv⟩
        obtain ⟨ay, cy, hvy⟩ : ∃ a c, ys j = .slice a t.to.length c := by obtain ⟨a, c, hv, _⟩ := oto.si; exact ⟨a, c, hv⟩
        obtain ⟨az, cz, hvz, _, _⟩ := oe.kr.shape
        rw [hvx] at hcv ofr
        rw [hvy] at hcv oto
        rw [hvz] at hcv oe
        clear hvx hvy hvz
        have HR : Hid (RestT w lo hi b off ts xs ys ss l m n h (j + 1) wr) := hI
        clear hI
        have c0 : wr.cell? ⟨b, off + j * 7, none⟩ = some (.slice ax t.fr.length cx) := hcv 0 _ rfl
        go_wp2_with fail
        clear c0
        refine (markIntS_any wr _ _ _ t.fr z ofr (by omega) hz0 (by omega)).mono ?_
        rintro e1 u1 ⟨rfl, _, wr1⟩
        have o1 := ofr.wroteOut wr1 (by omega)
        have s1 := o1.size
        replace HR : Hid (RestT w lo hi b off ts xs ys ss l m n h (j + 1) u1) := HR.out.call o1 hlt HI0.out.1 HI0.out.2 (Nat.le_refl _) (by omega) h3 h4 hhi
        replace hcv := hcv.kept (o1.block b (by omega) (by omega))
        replace oto := oto.out o1 (.inr (Nat.le_refl _)) (by omega)
        replace oe := oe.kept fun k q1 q2 => o1.block k (by omega) (by omega)
        clear wr1 o1 ofr
        obtain ⟨z1, hz1⟩ : ∃ q, z + (t.fr.length : Int) = q := ⟨_, rfl⟩
        have HZ1 : Hid (z + (t.fr.length : Int) = z1) := hz1
        have bz1 : 0 ≤ z1 ∧ z1 ≤ 6500000 := by omega
        rw [hz1]
        clear hz1
        have c1 : u1.cell? ⟨b, off + j * 7 + 1, none⟩ = some (.slice ay t.to.length cy) := hcv 1 _ rfl
        go_wp2_with fail
        clear c1
        refine (markIntS_any u1 _ _ _ t.to z1 oto (by omega) bz1.1 (by omega)).mono ?_
        rintro e2 u2 ⟨rfl, _, wr2⟩
        have o2 := oto.wroteOut wr2 (by omega)
        have s2 := o2.size
        replace HR : Hid (RestT w lo hi b off ts xs ys ss l m n h (j + 1) u2) := HR.out.call o2 hlt HI0.out.1 HI0.out.2 (by omega) (by omega) h3 h4 hhi
        replace hcv := hcv.kept (o2.block b (by omega) (by omega))
        replace oe := oe.kept fun k q1 q2 => o2.block k (by omega) (by omega)
        clear wr2 o2 oto
        obtain ⟨z2, hz2⟩ : ∃ q, z1 + (t.to.length : Int) = q := ⟨_, rfl⟩
        have HZ2 : Hid (z1 + (t.to.length : Int) = z2) := hz2
        have bz2 : 0 ≤ z2 ∧ z2 ≤ 7600000 := by omega
        rw [hz2]
        clear hz2
        go_wp2_with (refine wpList_store1G Tryz.sizeOf3 _ _ rfl rfl rfl rfl rfl rfl (hcv.some_ (x := off + j * 7 + 2) (by omega) (by show _ < off + j * 7 + 7; omega)) (by have := HR.out.fz (j * 7 + 2); rw [← Nat.add_assoc] at this; exact this) ?_)
        intro u3 L
        have s3 := L.size
        replace HR : Hid (RestT w lo hi b off ts xs ys ss l m n h (j + 1) u3) := HR.out.store L (by omega) HI0.out.1 h3 h4
        replace oe := oe.kept fun k q1 q2 => L.block k (by omega)
        have hs6 : (u3.cell? ⟨b, off + j * 7 + 6, none⟩) = some (.slice az t.e.kids.length cz) := by rw [L.cell _ _ (.inr (.inr (by simp only [List.length_cons, List.length_nil]; omega)))]; exact hcv 6 _ rfl
        have hcs : ∀ x, off + j * 7 ≤ x → x < off + j * 7 + 7 → (u3.cell? ⟨b, x, none⟩).isSome = true := fun x q1 q2 => by
          by_cases e : x = off + j * 7 + 2
          · have := L.cv 0 _ rfl
            rw [Nat.add_zero] at this
            rw [e, this]; rfl
          · rw [L.cell _ _ (by simp only [List.length_cons, List.length_nil]; omega)]; exact hcv.some_ q1 (by show _ < off + j * 7 + 7; omega)
        clear L hcv
        go_wp2_with (refine wpList_store1G Tryz.sizeOf3 _ _ rfl rfl rfl rfl rfl rfl (hcs (off + j * 7 + 3) (by omega) (by omega)) (by have := HR.out.fz (j * 7 + 3); rw [← Nat.add_assoc] at this; exact this) ?_)
        intro u4 L
        have s4 := L.size
        replace HR : Hid (RestT w lo hi b off ts xs ys ss l m n h (j + 1) u4) := HR.out.store L (by omega) HI0.out.1 h3 h4
        replace oe := oe.kept fun k q1 q2 => L.block k (by omega)
        have hs6 : (u4.cell? ⟨b, off + j * 7 + 6, none⟩) = some (.slice az t.e.kids.length cz) := by rw [L.cell _ _ (.inr (.inr (by simp only [List.length_cons, List.length_nil]; omega)))]; exact hs6
        have hcs : ∀ x, off + j * 7 ≤ x → x < off + j * 7 + 7 → (u4.cell? ⟨b, x, none⟩).isSome = true := fun x q1 q2 => by
          by_cases e : x = off + j * 7 + 3
          · have := L.cv 0 _ rfl
            rw [Nat.add_zero] at this
            rw [e, this]; rfl
          · rw [L.cell _ _ (by simp only [List.length_cons, List.length_nil]; omega)]; exact hcs x q1 q2
        clear L
        go_wp2_with (refine wpList_store1G Tryz.sizeOf3 _ _ rfl rfl rfl rfl rfl rfl (hcs (off + j * 7 + 4) (by omega) (by omega)) (by have := HR.out.fz (j * 7 + 4); rw [← Nat.add_assoc] at this; exact this) ?_)
        intro u5 L
        have s5 := L.size
        replace HR : Hid (RestT w lo hi b off ts xs ys ss l m n h (j + 1) u5) := HR.out.store L (by omega) HI0.out.1 h3 h4
        replace oe := oe.kept fun k q1 q2 => L.block k (by omega)
        have hs6 : (u5.cell? ⟨b, off + j * 7 + 6, none⟩) = some (.slice az t.e.kids.length cz) := by rw [L.cell _ _ (.inr (.inr (by simp only [List.length_cons, List.length_nil]; omega)))]; exact hs6
        have hcs : ∀ x, off + j * 7 ≤ x → x < off + j * 7 + 7 → (u5.cell? ⟨b, x, none⟩).isSome = true := fun x q1 q2 => by
          by_cases e : x = off + j * 7 + 4
          · have := L.cv 0 _ rfl
            rw [Nat.add_zero] at this
            rw [e, this]; rfl
          · rw [L.cell _ _ (by simp only [List.length_cons, List.length_nil]; omega)]; exact hcs x q1 q2
        clear L
        go_wp2_with (refine wpList_store1G Tryz.sizeOf3 _ _ rfl rfl rfl rfl rfl rfl (hcs (off + j * 7 + 5) (by omega) (by omega)) (by have := HR.out.fz (j * 7 + 5); rw [← Nat.add_assoc] at this; exact this) ?_)
        intro u6 L
        have s6 := L.size
        replace HR : Hid (RestT w lo hi b off ts xs ys ss l m n h (j + 1) u6) := HR.out.store L (by omega) HI0.out.1 h3 h4
        replace oe := oe.kept fun k q1 q2 => L.block k (by omega)
        have hs6 : (u6.cell? ⟨b, off + j * 7 + 6, none⟩) = some (.slice az t.e.kids.length cz) := by rw [L.cell _ _ (.inr (.inr (by simp only [List.length_cons, List.length_nil]; omega)))]; exact hs6
        
        clear L
        obtain ⟨z4, hz4⟩ : ∃ z4, z2 + 1 + 1 + 1 + 1 = z4 := ⟨_, rfl⟩
        have HZ4 : Hid (z4 = z2 + 4) := by show _ = _; omega
        have bz3 : 0 ≤ z4 ∧ z4 ≤ 7600004 := by have := HZ4.out; omega
        have hms := markS (manyL t.e.kids) u6 _ _ _ t.e.kids z4 (Nat.le_refl _) bz3.1 (by omega) oe (by omega)
        have HE : Hid (z2 + 1 + 1 + 1 + 1 = z4) := hz4
        clear hz4
        go_wp2_with fail
        rw [HE.out]
        refine hms.mono ?_
        rintro e7 u7 ⟨rfl, _, o7⟩
        replace HR : Hid (RestT w lo hi b off ts xs ys ss l m n h (j + 1) u7) := HR.out.call o7 hlt HI0.out.1 HI0.out.2 (by omega) (by omega) h3 h4 hhi
        have HF : Hid (0 ≤ z4 + 4 * (manyL t.e.kids : Int) ∧ z4 + 4 * (manyL t.e.kids : Int) ≤ k + 4 * (manyT (ts.take (j + 1)) : Int)) := by
          have h0 := HZ4.out
          have h1 := HZ1.out
          have h2 := HZ2.out
          have h3 := HZA.out
          show _ ∧ _
          omega
        obtain ⟨z3, hz3⟩ : ∃ q, z4 + 4 * (manyL t.e.kids : Int) = q := ⟨_, rfl⟩
        rw [hz3] at HF ⊢
        clear hz3 o7 oe hms hs6 hcs
        go_wp2
        go_roundw
        case rel => exact ⟨j + 1, z3, by omega, rfl, HF.out.1, HF.out.2, by go_num, HR.out⟩
        case measure => simp [intOf]; omega
      · obtain rfl : j = ts.length := by omega
        rw [List.take_length] at hz1
        have hxx := HXX.out
        have HF : Hid (0 ≤ z ∧ z ≤ 10000000) := ⟨hz0, by omega⟩
        have HR : Hid (Out lo hi w wr) := hI.out
        clear hI hxx hz1
        go_wp2
        go_ret
        exact ⟨z, rfl, HF.out.1, HF.out.2, HR.out⟩

set_option maxHeartbeats 4000000 in
theorem markChart_any (w : World) (lo hi : Nat) (v : Value) (c : ChartD) (k : Int) (h : HOc w lo hi v c) (hhi : hi ≤ w.heap.size) (hx : c.many ≤ 1048576) (hk : 0 ≤ k) (hk' : k ≤ 1000000) :
    Calls Tryz.prog 19 #[v, .int .i64 k] w fun e w' => ∃ z, e = .returned (.int .i64 z) ∧ 0 ≤ z ∧ z ≤ 100000000 ∧ Out lo hi w w' := by
  obtain ⟨va, vb, mid, rfl, hA, hB, h1, h2⟩ := h
  unfold ChartD.many at hx
  obtain ⟨ad, cap, rfl, _, _⟩ := hA.tr.shape
  obtain ⟨ad', cap', rfl, _, _⟩ := hB.gr.shape
  have HW : Hid (TO w lo mid (.slice ad c.ts.length cap) c.ts ∧ GO actE w mid hi (.slice ad' c.acts.length cap') c.acts) := ⟨hA, hB⟩
  clear hA hB
  go_enter Tryz.func19, Tryz.ntmps19
  go_wp2_with (refine wpList_boxG (vs := [.int .i64 c.steps, .slice ad c.ts.length cap, .slice ad' c.acts.length cap']) rfl _ rfl rfl ?_)
  intro u1 g1 p1 s1
  have c0 : u1.cell? ⟨w.heap.size, 1, none⟩ = some (.slice ad c.ts.length cap) := p1.c 1 _ rfl
  go_wp2_with fail
  clear c0
  refine (markTransS_any u1 lo mid _ c.ts k (HW.out.1.under g1 (by omega)) (by omega) (by omega) hk hk').mono ?_
  rintro e2 u2 ⟨k2, rfl, b2, b2', o2⟩
  have s2 := o2.size
  have O2 : Out lo hi w u2 := (out_of_below g1 lo hi).trans (o2.widen (Nat.le_refl _) h2)
  have p2 : VarG u2 w.heap.size [.int .i64 c.steps, .slice ad c.ts.length cap, .slice ad' c.acts.length cap'] := p1.at_ (o2.block w.heap.size (by omega) (by omega))
  have D2 : GO actE u2 mid hi (.slice ad' c.acts.length cap') c.acts := (HW.out.2.under g1 (by omega)).kept fun q h3 h4 => o2.block q (by omega) (.inr h3)
  have c1 : u2.cell? ⟨w.heap.size, 2, none⟩ = some (.slice ad' c.acts.length cap') := p2.c 2 _ rfl
  clear o2 p1 p2 g1
  go_wp2_with fail
  clear c1
  refine (markActS_any u2 mid hi _ c.acts k2 D2 (by omega) (by omega) b2 (by omega)).mono ?_
  rintro e3 u3 ⟨rfl, o3⟩
  have O3 : Out lo hi w u3 := O2.trans (o3.widen h1 (Nat.le_refl _))
  have b3 : 0 ≤ k2 + 4 * (c.acts.length : Int) ∧ k2 + 4 * (c.acts.length : Int) ≤ 100000000 := by omega
  obtain ⟨k3, hk3⟩ : ∃ z, k2 + 4 * (c.acts.length : Int) = z := ⟨_, rfl⟩
  rw [hk3] at b3 ⊢
  clear o3 hk3 O2 D2
  go_wp2
  go_ret
  exact ⟨_, rfl, b3.1, b3.2, O3⟩
end Go.Proofs.YtokphdpaghkakaaGreat
