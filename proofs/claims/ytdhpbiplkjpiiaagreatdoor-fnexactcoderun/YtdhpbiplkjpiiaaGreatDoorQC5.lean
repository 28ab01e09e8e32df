import Derived.Test.YtdhpbiplkjpiiaaGreatDoorL5DoB

/-
  The model's l5Do of a store; what it does of any instruction. (Written by our generator gen_l5st.py.)
-/
namespace Go.Proofs.YtdhpbiplkjpiiaaGreatDoor
open Go.ChangeShapes Go.WideShapes Go.ChangeAt Go.RowKit
set_option linter.unusedVariables false
set_option linter.unusedSimpArgs false
set_option maxRecDepth 100000

/-- What is known while a store is done: iP, iS: the operations that put, and that store the memory's value. -/
structure DoP (w : World) (lo hi base PM : Nat) (ms is zs : List Value) (vh : Value) (st : List Int) (d : MemD) (a : AddrD) (x : Int) (iP iS : Nat) (L : Array Bool) (u : World) : Prop where
  pm : VarG u PM ms
  pi : VarG u (PM + 1) is
  pr : VarG u (PM + 2) (if L.getD iS true = true then ms else zs)
  out : Out lo hi w u
  size : PM + 2 < u.heap.size
  row : RowZ u base vh st
  mem : MO u lo hi (.agg ms.toArray) (if L.getD iP true = true then memSet d a x else d)

section
variable {w u u' : World} {lo hi base PM : Nat} {ms is zs : List Value} {vh : Value} {st : List Int} {d : MemD} {a : AddrD} {x : Int} {iP iS : Nat} {L : Array Bool}

theorem DoP.keep (h : DoP w lo hi base PM ms is zs vh st d a x iP iS L u) (hw : w.heap.size = PM) (hhi : hi ≤ PM) {i : Nat} (h1 : i ≠ iP) (h2 : i ≠ iS) : DoP w lo hi base PM ms is zs vh st d a x iP iS (L.setIfInBounds i true) u := by
  refine ⟨h.pm, h.pi, ?_, h.out, h.size, h.row, ?_⟩
  · rw [getD_set_ne true h2]; exact h.pr
  · rw [getD_set_ne true h1]; exact h.mem

theorem DoP.put (h : DoP w lo hi base PM ms is zs vh st d a x iP iS L u) (hhi : hi ≤ base) (hb : base ≤ PM) (ho : Out lo hi u u') (hm : MO u' lo hi (.agg ms.toArray) (memSet d a x)) (hl : iP < L.size) (h2 : iP ≠ iS) : DoP w lo hi base PM ms is zs vh st d a x iP iS (L.setIfInBounds iP true) u' := by
  have hz := h.size
  have hs := ho.size
  refine ⟨h.pm.at_ (ho.block _ (by omega) (by omega)), h.pi.at_ (ho.block _ (by omega) (by omega)), ?_, h.out.trans ho, by omega, h.row.at_ fun g hg => ho.block g (h.row.lt g hg).2 (.inr (by have := (h.row.lt g hg).1; omega)), ?_⟩
  · rw [getD_set_ne true h2]; exact h.pr.at_ (ho.block _ (by omega) (by omega))
  · rw [getD_set_self' hl, if_pos rfl]; exact hm

theorem DoP.laid (h : DoP w lo hi base PM ms is zs vh st d a x iP iS L u) (hw : w.heap.size = PM) (hhi : hi ≤ base) (hb : base ≤ PM) (hv : ∀ k, vh.ownBlock = some k → base ≤ k ∧ k < PM) (hL : LaidG u u' (PM + 2) 0 ms) (hl : iS < L.size) (h1 : iS ≠ iP) : DoP w lo hi base PM ms is zs vh st d a x iP iS (L.setIfInBounds iS true) u' := by
  have hz := h.size
  have hs := hL.size
  refine ⟨hL.other h.pm (by omega), hL.other h.pi (by omega), ?_, ?_, by omega, h.row.at_ fun g hg => hL.block g (by have := hv g hg; omega), ?_⟩
  · rw [getD_set_self' hl, if_pos rfl]; exact hL.var h.pr
  · have hB0 : Below 0 w u := ⟨h.out.os, h.out.tape, h.out.output, h.out.size, fun k hk => by omega⟩
    have hB1 := hL.below 0 w (Nat.zero_le _) hB0
    exact ⟨hB1.os, hB1.tape, hB1.output, hB1.size, fun k q1 q2 => (hL.block k (by omega)).trans (h.out.block k q1 q2)⟩
  · rw [getD_set_ne true h1]; exact h.mem.kept fun k q1 q2 => hL.block k (by omega)
end

set_option maxHeartbeats 8000000 in
theorem l5Do_store (w : World) (lo hi base : Nat) (ma mb mc : Value) (ad : Option Go.Addr) (n cap : Nat) (st : List Int) (p : InsD) (d : MemD) (hop : p.op = 3) (hrow : RowZ w base (.slice ad n cap) st) (hn : st.length = n) (hb : base ≤ w.heap.size) (hm : MO w lo hi (.agg #[ma, mb, mc]) d) (hib : hi ≤ base) (hd : memOk d = true) (ha : addrOk ⟨p.ak, p.at_⟩ = true) (h1 : ∀ v ∈ [ma, mb, mc], v.oneCell' = true) (hk : 1 ≤ n) :
    Calls Tryz.prog 36 #[.agg #[ma, mb, mc], .slice ad n cap, p.val] w fun e w' => ∃ v', e = .returned (.tuple #[.agg #[ma, mb, mc], v']) ∧ RowZ w' base v' (st.take (st.length - 1)) ∧ MO w' lo hi (.agg #[ma, mb, mc]) (memSet d ⟨p.ak, p.at_⟩ (topI st)) ∧ Out lo hi w w' := by
  obtain ⟨op, pn, ak, at_⟩ := p
  simp only at hop ha
  subst hop
  have hZ := (zero_of_info (P := Tryz.prog) zero_memD).1
  have hv0 : ∀ k, (Value.slice ad n cap).ownBlock = some k → base ≤ k ∧ k < w.heap.size := hrow.lt
  obtain ⟨ms, hms0⟩ : ∃ ms : List Value, ms = [ma, mb, mc] := ⟨_, rfl⟩
  have hone : ∀ v ∈ ms, v.oneCell' = true := by rw [hms0]; exact h1
  have hm3 : ms.length = 3 := by rw [hms0]; rfl
  have HMS : Hid (ms = [ma, mb, mc]) := hms0
  have HM : Hid (MO w lo hi (.agg ms.toArray) d) := by show MO w lo hi (.agg ms.toArray) d; rw [hms0]; exact hm
  have HROW : Hid (RowZ w base (.slice ad n cap) st) := hrow
  have HN : Hid (st.length = n) := hn
  clear hrow h1 hn hm hms0
  obtain ⟨k, rfl⟩ : ∃ k, n = k + 1 := ⟨n - 1, by omega⟩
  clear hk
  obtain ⟨g, cap', hv', hcl1, hcl2, _, _, _⟩ := HROW.out.block (by have := HN.out; omega)
  simp only [Value.slice.injEq] at hv'
  obtain ⟨rfl, hq, rfl⟩ := hv'
  clear hq
  have hkc : k + 1 ≤ cap := by have := HN.out; omega
  unfold maxLen at hcl2
  clear hcl1
  have HT : Hid (st.take (st.length - 1) = st.take k) := by show _ = _; rw [HN.out, Nat.add_sub_cancel]
  rw [valI]
  go_enter Tryz.func36, Tryz.ntmps36
  go_wp2_with (refine wpList_boxG (vs := [ma, mb, mc]) rfl _ rfl rfl ?_)
  intro u1 g1 p1 s1
  go_wp2_with (refine wpList_boxG (vs := [Value.int .i64 3, .int .i64 pn, .int .i64 ak, .int .i64 at_]) rfl _ rfl rfl ?_)
  intro u2 g2 q2 s2
  have p2 := p1.below g2 (by omega)
  have G2 := g1.trans (g2.mono (by omega))
  clear g1 g2 p1
  go_wp2_with (refine wpList_allocG hZ rfl rfl ?_)
  intro u3 g3 r3 s3
  have p3 := p2.below g3 (by omega)
  have q3 := q2.below g3 (by omega)
  have G3 := G2.trans (g3.mono (by omega))
  clear g3 G2 p2 q2
  have c0 : u3.cell? ⟨w.heap.size + 1, 0, none⟩ = some (.int .i64 3) := q3.c 0 _ rfl
  go_wp2_with fail
  clear c0
  rw [← HMS.out] at p3
  obtain ⟨is, his⟩ : ∃ is : List Value, is = [Value.int .i64 3, .int .i64 pn, .int .i64 ak, .int .i64 at_] := ⟨_, rfl⟩
  obtain ⟨zs, hzs⟩ : ∃ zs : List Value, zs = [Value.slice none 0 0, .slice none 0 0, .slice none 0 0] := ⟨_, rfl⟩
  rw [← his] at q3
  rw [← hzs] at r3
  obtain ⟨PM, hPM⟩ : ∃ PM, w.heap.size = PM := ⟨_, rfl⟩
  have hPMb : base ≤ PM := by omega
  have HJ0 : Hid (VarG u3 PM ms ∧ VarG u3 (PM + 1) is ∧ VarG u3 (PM + 2) zs ∧ Out lo hi w u3 ∧ PM + 2 < u3.heap.size ∧ RowZ u3 base (.slice (some ⟨g, 0, none⟩) (k + 1) cap) st ∧ MO u3 lo hi (.agg ms.toArray) d) := ⟨hPM ▸ p3, hPM ▸ q3, hPM ▸ r3, out_of_below G3 lo hi, by omega, HROW.out.below G3 (Nat.le_refl _), HM.out.below G3 (by omega)⟩
  rw [hPM] at hv0
  have HW : Hid (w.heap.size = PM) := hPM
  have HIS : Hid (is = [Value.int .i64 3, .int .i64 pn, .int .i64 ak, .int .i64 at_]) := his
  have HZS : Hid (zs = [Value.slice none 0 0, .slice none 0 0, .slice none 0 0]) := hzs
  clear p3 q3 r3 G3 hb his hzs
  try rw [hPM]
  clear hPM s1 s2 s3
  refine wp_region_dagC (R := fun _ _ => True) (Φ := fun i v u => match i with
      | 0 => v = .agg ms.toArray
      | 1 => v = .pointer (some ⟨PM + 1, 2, none⟩)
      | 2 => v = .agg #[.int .i64 ak, .int .i64 at_]
      | 3 => v = .slice (some ⟨g, 0, none⟩) (k + 1) cap
      | 4 => v = .int .i64 ((k + 1 : Nat) : Int)
      | 5 => v = .int .i64 k
      | 6 => v = .pointer (some ⟨g, k, none⟩)
      | 7 => v = .int .i64 (topI st)
      | 8 => v = .agg ms.toArray
      | 9 => v = .slice (some ⟨g, 0, none⟩) (k + 1) cap
      | 10 => v = .int .i64 ((k + 1 : Nat) : Int)
      | 11 => v = .int .i64 k
      | 12 => v = .slice (some ⟨g, 0, none⟩) k cap
      | 14 => v = .slice (some ⟨g, 0, none⟩) k cap
      | _ => True)
    (J := fun L a u => DoP w lo hi base PM ms is zs (.slice (some ⟨g, 0, none⟩) (k + 1) cap) st d ⟨ak, at_⟩ (topI st) 8 13 L u) (by kernel_rfl) (by kernel_rfl) (by kernel_rfl) trivial (fun _ _ _ _ _ => trivial) ?_ ?_ ?_ ?_
  · intro i v u u' hr
    exact fun h => h
  · exact ⟨HJ0.out.1.at_ rfl, HJ0.out.2.1.at_ rfl, HJ0.out.2.2.1.at_ rfl, HJ0.out.2.2.2.1.trans (out_of_below (Below.drew (Below.refl _ _)) _ _), HJ0.out.2.2.2.2.1, HJ0.out.2.2.2.2.2.1.at_ fun _ _ => rfl, HJ0.out.2.2.2.2.2.2.kept fun _ _ _ => rfl⟩
  · intro i o ho L ac u hf hR0 hLs hLi hcl hp he hJ K' hK
    have hsz' : ac.tmps.size = 94 := hf.size
    have hLs : L.size = 15 := hLs
    have hPM := hJ.size
    rcases i with _ | _ | _ | _ | _ | _ | _ | _ | _ | _ | _ | _ | _ | _ | _ | i
    · obtain rfl := Option.some.inj ho
      have q3 : ac.tmps.getD 3 undef = .pointer (some ⟨PM, 0, none⟩) := hf.at_ 3 (by kernel_rfl)
      clear hp he
      refine wantedG rfl (wp_loadG Tryz.isAgg28 Tryz.sizeOf28 (vs := ms) _ rfl q3 hm3 hJ.pm.c ?_)
      exact hK _ _ trivial (getD_put_self ac 33 _ (by show _ < ac.tmps.size; omega)) (hJ.keep HW.out (by omega) (by decide) (by decide))
    · obtain rfl := Option.some.inj ho
      have q5 : ac.tmps.getD 5 undef = .pointer (some ⟨PM + 1, 0, none⟩) := hf.at_ 5 (by kernel_rfl)
      clear hp he
      go_simp
      exact hK _ _ trivial (getD_put_self ac 34 _ (by show _ < ac.tmps.size; omega)) (hJ.keep HW.out (by omega) (by decide) (by decide))
    · obtain rfl := Option.some.inj ho
      have q34 : ac.tmps.getD 34 undef = .pointer (some ⟨PM + 1, 2, none⟩) := hp 1 _ rfl (he _ (Array.mem_of_getElem? (i := 0) rfl) (by kernel_rfl))
      clear hp he
      have cp2 : u.cell? ⟨PM + 1, 2, none⟩ = some (.int .i64 ak) := by have := hJ.pi; rw [HIS.out] at this; exact this.c 2 _ rfl
      have cp3 : u.cell? ⟨PM + 1, 3, none⟩ = some (.int .i64 at_) := by have := hJ.pi; rw [HIS.out] at this; exact this.c 3 _ rfl
      go_simp
      exact hK _ _ trivial (getD_put_self ac 35 _ (by show _ < ac.tmps.size; omega)) (hJ.keep HW.out (by omega) (by decide) (by decide))
    · obtain rfl := Option.some.inj ho
      have q1 : ac.tmps.getD 1 undef = .slice (some ⟨g, 0, none⟩) (k + 1) cap := hf.at_ 1 (by kernel_rfl)
      clear hp he
      go_simp
      exact hK _ _ trivial (getD_put_self ac 36 _ (by show _ < ac.tmps.size; omega)) (hJ.keep HW.out (by omega) (by decide) (by decide))
    · obtain rfl := Option.some.inj ho
      have q8 : ac.tmps.getD 8 undef = .int .i64 ((k + 1 : Nat) : Int) := hf.at_ 8 (by kernel_rfl)
      clear hp he
      go_simp
      exact hK _ _ trivial (getD_put_self ac 37 _ (by show _ < ac.tmps.size; omega)) (hJ.keep HW.out (by omega) (by decide) (by decide))
    · obtain rfl := Option.some.inj ho
      have q37 : ac.tmps.getD 37 undef = .int .i64 ((k + 1 : Nat) : Int) := hp 4 _ rfl (he _ (Array.mem_of_getElem? (i := 0) rfl) (by kernel_rfl))
      clear hp he
      go_simp
      try go_bits
      exact hK _ _ trivial ((getD_put_self ac 38 _ (by show _ < ac.tmps.size; omega)).trans (by first | rfl | (simp; done) | (congr 1; omega) | (simp; omega))) (hJ.keep HW.out (by omega) (by decide) (by decide))
    · obtain rfl := Option.some.inj ho
      have q36 : ac.tmps.getD 36 undef = .slice (some ⟨g, 0, none⟩) (k + 1) cap := hp 3 _ rfl (he _ (Array.mem_of_getElem? (i := 0) rfl) (by kernel_rfl))
      have q38 : ac.tmps.getD 38 undef = .int .i64 k := hp 5 _ rfl (he _ (Array.mem_of_getElem? (i := 1) rfl) (by kernel_rfl))
      clear hp he
      have hx1 : (k : Int) < (k : Int) + 1 := by omega
      go_simp
      exact hK _ _ trivial (getD_put_self ac 39 _ (by show _ < ac.tmps.size; omega)) (hJ.keep HW.out (by omega) (by decide) (by decide))
    · obtain rfl := Option.some.inj ho
      have q39 : ac.tmps.getD 39 undef = .pointer (some ⟨g, k, none⟩) := hp 6 _ rfl (he _ (Array.mem_of_getElem? (i := 0) rfl) (by kernel_rfl))
      clear hp he
      have ch : u.cell? ⟨g, k, none⟩ = some (.int .i64 (topI st)) := hJ.row.cellAt (top_at HN.out)
      go_simp
      exact hK _ _ trivial (getD_put_self ac 40 _ (by show _ < ac.tmps.size; omega)) (hJ.keep HW.out (by omega) (by decide) (by decide))
    · obtain rfl := Option.some.inj ho
      have q33 : ac.tmps.getD 33 undef = .agg ms.toArray := hp 0 _ rfl (he _ (Array.mem_of_getElem? (i := 0) rfl) (by kernel_rfl))
      have q35 : ac.tmps.getD 35 undef = .agg #[.int .i64 ak, .int .i64 at_] := hp 2 _ rfl (he _ (Array.mem_of_getElem? (i := 1) rfl) (by kernel_rfl))
      have q40 : ac.tmps.getD 40 undef = .int .i64 (topI st) := hp 7 _ rfl (he _ (Array.mem_of_getElem? (i := 2) rfl) (by kernel_rfl))
      clear hp he
      go_simp
      have hmm := hJ.mem
      rw [hLi, if_neg (by decide)] at hmm
      refine (l2Put_any u lo hi _ d ⟨ak, at_⟩ (topI st) hmm (by omega) hd ha).mono ?_
      rintro e1 u' ⟨rfl, hm', ho'⟩
      exact hK _ _ trivial (getD_put_self ac 41 _ (by show _ < ac.tmps.size; omega)) (hJ.put hib hPMb ho' hm' (by omega) (by decide))
    · obtain rfl := Option.some.inj ho
      have q1 : ac.tmps.getD 1 undef = .slice (some ⟨g, 0, none⟩) (k + 1) cap := hf.at_ 1 (by kernel_rfl)
      clear hp he
      go_simp
      exact hK _ _ trivial (getD_put_self ac 42 _ (by show _ < ac.tmps.size; omega)) (hJ.keep HW.out (by omega) (by decide) (by decide))
    · obtain rfl := Option.some.inj ho
      have q8 : ac.tmps.getD 8 undef = .int .i64 ((k + 1 : Nat) : Int) := hf.at_ 8 (by kernel_rfl)
      clear hp he
      go_simp
      exact hK _ _ trivial (getD_put_self ac 43 _ (by show _ < ac.tmps.size; omega)) (hJ.keep HW.out (by omega) (by decide) (by decide))
    · obtain rfl := Option.some.inj ho
      have q43 : ac.tmps.getD 43 undef = .int .i64 ((k + 1 : Nat) : Int) := hp 10 _ rfl (he _ (Array.mem_of_getElem? (i := 0) rfl) (by kernel_rfl))
      clear hp he
      go_simp
      try go_bits
      exact hK _ _ trivial ((getD_put_self ac 44 _ (by show _ < ac.tmps.size; omega)).trans (by first | rfl | (simp; done) | (congr 1; omega) | (simp; omega))) (hJ.keep HW.out (by omega) (by decide) (by decide))
    · obtain rfl := Option.some.inj ho
      have q42 : ac.tmps.getD 42 undef = .slice (some ⟨g, 0, none⟩) (k + 1) cap := hp 9 _ rfl (he _ (Array.mem_of_getElem? (i := 0) rfl) (by kernel_rfl))
      have q44 : ac.tmps.getD 44 undef = .int .i64 k := hp 11 _ rfl (he _ (Array.mem_of_getElem? (i := 1) rfl) (by kernel_rfl))
      clear hp he
      have hkk : k ≤ cap := by omega
      go_simp
      exact hK _ _ trivial (getD_put_self ac 45 _ (by show _ < ac.tmps.size; omega)) (hJ.keep HW.out (by omega) (by decide) (by decide))
    · obtain rfl := Option.some.inj ho
      have q6 : ac.tmps.getD 6 undef = .pointer (some ⟨PM + 2, 0, none⟩) := hf.at_ 6 (by kernel_rfl)
      have q41 : ac.tmps.getD 41 undef = .agg ms.toArray := hp 8 _ rfl (he _ (Array.mem_of_getElem? (i := 0) rfl) (by kernel_rfl))
      clear hp he
      have hpr := hJ.pr
      rw [hLi, if_neg (by decide), HZS.out] at hpr
      have hrun := hpr.run 0 3 (show 0 + 3 ≤ 3 by decide)
      refine wantedG rfl (wp_storeG Tryz.sizeOf28 (vs := ms) (.tmp 6) (.tmp 41) rfl q6 q41 hm3 hone (fun y h1 h2 => hrun.1 y h1 (by omega)) (fun y h1 h2 => hrun.2 y h1 (by omega)) ?_)
      intro u' Lu
      exact hK _ _ trivial trivial (hJ.laid HW.out hib hPMb hv0 Lu (by omega) (by decide))
    · obtain rfl := Option.some.inj ho
      have q45 : ac.tmps.getD 45 undef = .slice (some ⟨g, 0, none⟩) k cap := hp 12 _ rfl (he _ (Array.mem_of_getElem? (i := 0) rfl) (by kernel_rfl))
      clear hp he
      go_simp
      exact hK _ _ trivial (getD_put_self ac 7 _ (by show _ < ac.tmps.size; omega)) (hJ.keep HW.out (by omega) (by decide) (by decide))
    · exact absurd ho (by simp)
  · intro L ac u hf hR0 hp hJ
    have hpr := hJ.pr
    rw [if_pos (hp 13 _ rfl).1] at hpr
    have hmm := hJ.mem
    rw [if_pos (hp 8 _ rfl).1] at hmm
    have hrw := (hJ.row.cut k (by have := HN.out; omega))
    have hout := hJ.out
    have m7 : ac.tmps.getD 7 undef = .slice (some ⟨g, 0, none⟩) k cap := (hp 14 _ rfl).2
    clear hp hJ hR0
    obtain ⟨fq, ea, hfv⟩ := act_lit ac 94 hf.size
    have md : ac.defers = [] := hf.defers
    rw [md] at ea
    have m0 := hf.at_ 0 (by kernel_rfl)
    have m1 := hf.at_ 1 (by kernel_rfl)
    have m2 := hf.at_ 2 (by kernel_rfl)
    have m3 := hf.at_ 3 (by kernel_rfl)
    have m4 := hf.at_ 4 (by kernel_rfl)
    have m5 := hf.at_ 5 (by kernel_rfl)
    have m6 := hf.at_ 6 (by kernel_rfl)
    have m8 := hf.at_ 8 (by kernel_rfl)
    have m9 := hf.at_ 9 (by kernel_rfl)
    have m10 := hf.at_ 10 (by kernel_rfl)
    have m11 := hf.at_ 11 (by kernel_rfl)
    have m12 := hf.at_ 12 (by kernel_rfl)
    have m13 := hf.at_ 13 (by kernel_rfl)
    have m14 := hf.at_ 14 (by kernel_rfl)
    have m15 := hf.at_ 15 (by kernel_rfl)
    have m16 := hf.at_ 16 (by kernel_rfl)
    have m17 := hf.at_ 17 (by kernel_rfl)
    have m18 := hf.at_ 18 (by kernel_rfl)
    have m19 := hf.at_ 19 (by kernel_rfl)
    have m20 := hf.at_ 20 (by kernel_rfl)
    have m21 := hf.at_ 21 (by kernel_rfl)
    have m22 := hf.at_ 22 (by kernel_rfl)
    have m23 := hf.at_ 23 (by kernel_rfl)
    have m24 := hf.at_ 24 (by kernel_rfl)
    have m25 := hf.at_ 25 (by kernel_rfl)
    have m26 := hf.at_ 26 (by kernel_rfl)
    have m27 := hf.at_ 27 (by kernel_rfl)
    have m28 := hf.at_ 28 (by kernel_rfl)
    have m29 := hf.at_ 29 (by kernel_rfl)
    have m30 := hf.at_ 30 (by kernel_rfl)
    have m31 := hf.at_ 31 (by kernel_rfl)
    have m32 := hf.at_ 32 (by kernel_rfl)
    have m46 := hf.at_ 46 (by kernel_rfl)
    have m47 := hf.at_ 47 (by kernel_rfl)
    have m48 := hf.at_ 48 (by kernel_rfl)
    have m49 := hf.at_ 49 (by kernel_rfl)
    have m50 := hf.at_ 50 (by kernel_rfl)
    have m51 := hf.at_ 51 (by kernel_rfl)
    have m52 := hf.at_ 52 (by kernel_rfl)
    have m53 := hf.at_ 53 (by kernel_rfl)
    have m54 := hf.at_ 54 (by kernel_rfl)
    have m55 := hf.at_ 55 (by kernel_rfl)
    have m56 := hf.at_ 56 (by kernel_rfl)
    have m57 := hf.at_ 57 (by kernel_rfl)
    have m58 := hf.at_ 58 (by kernel_rfl)
    have m59 := hf.at_ 59 (by kernel_rfl)
    have m60 := hf.at_ 60 (by kernel_rfl)
    have m61 := hf.at_ 61 (by kernel_rfl)
    have m62 := hf.at_ 62 (by kernel_rfl)
    have m63 := hf.at_ 63 (by kernel_rfl)
    have m64 := hf.at_ 64 (by kernel_rfl)
    have m65 := hf.at_ 65 (by kernel_rfl)
    have m66 := hf.at_ 66 (by kernel_rfl)
    have m67 := hf.at_ 67 (by kernel_rfl)
    have m68 := hf.at_ 68 (by kernel_rfl)
    have m69 := hf.at_ 69 (by kernel_rfl)
    have m70 := hf.at_ 70 (by kernel_rfl)
    have m71 := hf.at_ 71 (by kernel_rfl)
    have m72 := hf.at_ 72 (by kernel_rfl)
    have m73 := hf.at_ 73 (by kernel_rfl)
    have m74 := hf.at_ 74 (by kernel_rfl)
    have m75 := hf.at_ 75 (by kernel_rfl)
    have m76 := hf.at_ 76 (by kernel_rfl)
    have m77 := hf.at_ 77 (by kernel_rfl)
    have m78 := hf.at_ 78 (by kernel_rfl)
    have m79 := hf.at_ 79 (by kernel_rfl)
    have m80 := hf.at_ 80 (by kernel_rfl)
    have m81 := hf.at_ 81 (by kernel_rfl)
    have m82 := hf.at_ 82 (by kernel_rfl)
    have m83 := hf.at_ 83 (by kernel_rfl)
    have m84 := hf.at_ 84 (by kernel_rfl)
    have m85 := hf.at_ 85 (by kernel_rfl)
    have m86 := hf.at_ 86 (by kernel_rfl)
    have m87 := hf.at_ 87 (by kernel_rfl)
    have m88 := hf.at_ 88 (by kernel_rfl)
    have m89 := hf.at_ 89 (by kernel_rfl)
    have m90 := hf.at_ 90 (by kernel_rfl)
    have m91 := hf.at_ 91 (by kernel_rfl)
    have m92 := hf.at_ 92 (by kernel_rfl)
    have m93 := hf.at_ 93 (by kernel_rfl)
    rw [← hfv] at m0 m1 m2 m3 m4 m5 m6 m8 m9 m10 m11 m12 m13 m14 m15 m16 m17 m18 m19 m20 m21 m22 m23 m24 m25 m26 m27 m28 m29 m30 m31 m32 m46 m47 m48 m49 m50 m51 m52 m53 m54 m55 m56 m57 m58 m59 m60 m61 m62 m63 m64 m65 m66 m67 m68 m69 m70 m71 m72 m73 m74 m75 m76 m77 m78 m79 m80 m81 m82 m83 m84 m85 m86 m87 m88 m89 m90 m91 m92 m93 m7
    simp only [Array.getD_eq_getD_getElem?, List.getElem?_toArray, List.getElem?_cons_succ, List.getElem?_cons_zero, Option.getD_some] at m0 m1 m2 m3 m4 m5 m6 m8 m9 m10 m11 m12 m13 m14 m15 m16 m17 m18 m19 m20 m21 m22 m23 m24 m25 m26 m27 m28 m29 m30 m31 m32 m46 m47 m48 m49 m50 m51 m52 m53 m54 m55 m56 m57 m58 m59 m60 m61 m62 m63 m64 m65 m66 m67 m68 m69 m70 m71 m72 m73 m74 m75 m76 m77 m78 m79 m80 m81 m82 m83 m84 m85 m86 m87 m88 m89 m90 m91 m92 m93
    simp only [List.range, List.range.loop, List.map_cons, List.map_nil, m0, m1, m2, m3, m4, m5, m6, m8, m9, m10, m11, m12, m13, m14, m15, m16, m17, m18, m19, m20, m21, m22, m23, m24, m25, m26, m27, m28, m29, m30, m31, m32, m46, m47, m48, m49, m50, m51, m52, m53, m54, m55, m56, m57, m58, m59, m60, m61, m62, m63, m64, m65, m66, m67, m68, m69, m70, m71, m72, m73, m74, m75, m76, m77, m78, m79, m80, m81, m82, m83, m84, m85, m86, m87, m88, m89, m90, m91, m92, m93, m7] at ea
    subst ea
    clear m0 m1 m2 m3 m4 m5 m6 m8 m9 m10 m11 m12 m13 m14 m15 m16 m17 m18 m19 m20 m21 m22 m23 m24 m25 m26 m27 m28 m29 m30 m31 m32 m46 m47 m48 m49 m50 m51 m52 m53 m54 m55 m56 m57 m58 m59 m60 m61 m62 m63 m64 m65 m66 m67 m68 m69 m70 m71 m72 m73 m74 m75 m76 m77 m78 m79 m80 m81 m82 m83 m84 m85 m86 m87 m88 m89 m90 m91 m92 m93 m7 hfv md hf
    go_wp2
    refine bodyPost_ret (v := .tuple #[.agg ms.toArray, .slice (some ⟨g, 0, none⟩) k cap]) ?_ rfl ⟨_, by rw [HMS.out], by rw [HT.out]; exact hrw, by rw [HMS.out] at hmm; exact hmm, hout⟩
    simp [results, Tryz.results36, go_sem]
    rw [HMS.out] at hpr ⊢
    have hpr : VarG u (PM + 1 + 1) [ma, mb, mc] := hpr
    have c0 := hpr.c 0 _ rfl
    have c1 := hpr.c 1 _ rfl
    have c2 := hpr.c 2 _ rfl
    simp [c0, c1, c2]
end Go.Proofs.YtdhpbiplkjpiiaaGreatDoor

/-
  The model's l5Do, of any instruction that fits and finds as many numbers held as it needs.
-/
namespace Go.Proofs.YtdhpbiplkjpiiaaGreatDoor
open Go.ChangeShapes Go.WideShapes Go.ChangeAt Go.RowKit
set_option linter.unusedVariables false
set_option linter.unusedSimpArgs false
set_option maxRecDepth 100000

/-- All below a place is as it was, but for one run of blocks. -/
structure OutB (lo hi base : Nat) (w w' : World) : Prop where
  os : w'.os = w.os
  tape : w'.tape = w.tape
  output : w'.output = w.output
  size : w.heap.size ≤ w'.heap.size
  block : ∀ k, k < base → (k < lo ∨ hi ≤ k) → w'.heap[k]? = w.heap[k]?

theorem OutB.of_below {lo hi base : Nat} {w w' : World} (h : Below base w w') : OutB lo hi base w w' := ⟨h.os, h.tape, h.output, h.size, fun k h1 _ => h.block k h1⟩
theorem OutB.of_out {lo hi base : Nat} {w w' : World} (h : Out lo hi w w') (hb : base ≤ w.heap.size) : OutB lo hi base w w' := ⟨h.os, h.tape, h.output, h.size, fun k h1 h2 => h.block k (by omega) h2⟩
theorem OutB.trans {lo hi base : Nat} {a b c : World} (h : OutB lo hi base a b) (k : OutB lo hi base b c) : OutB lo hi base a c :=
  ⟨k.os.trans h.os, k.tape.trans h.tape, k.output.trans h.output, Nat.le_trans h.size k.size, fun x h1 h2 => (k.block x h1 h2).trans (h.block x h1 h2)⟩
theorem OutB.refl (lo hi base : Nat) (w : World) : OutB lo hi base w w := ⟨rfl, rfl, rfl, Nat.le_refl _, fun _ _ _ => rfl⟩

theorem three_one {pa pb pc : Option Go.Addr} {la ca lb cb lc cc : Nat} : ∀ v ∈ [Value.slice pa la ca, .slice pb lb cb, .slice pc lc cc], v.oneCell' = true := by
  intro v hv
  simp only [List.mem_cons, List.not_mem_nil, or_false] at hv
  rcases hv with rfl | rfl | rfl <;> rfl

set_option maxHeartbeats 2000000 in
theorem l5Do_any (w : World) (lo hi base i N : Nat) (pa pb pc : Option Go.Addr) (la ca lb cb lc cc : Nat) (vh : Value) (st : List Int) (p : InsD) (d : MemD) (hrow : RowZ w base vh st) (hb : base ≤ w.heap.size) (hm : MO w lo hi (.agg #[.slice pa la ca, .slice pb lb cb, .slice pc lc cc]) d) (hib : hi ≤ base) (hd : memOk d = true) (hfit : fitI p i N = true) (hneed : needI p ≤ (st.length : Int)) (hl : st.length ≤ 12) :
    Calls Tryz.prog 36 #[.agg #[.slice pa la ca, .slice pb lb cb, .slice pc lc cc], vh, p.val] w fun e w' => ∃ v', e = .returned (.tuple #[.agg #[.slice pa la ca, .slice pb lb cb, .slice pc lc cc], v']) ∧ RowZ w' base v' (stackI p d st) ∧ MO w' lo hi (.agg #[.slice pa la ca, .slice pb lb cb, .slice pc lc cc]) (memI p d st) ∧ OutB lo hi base w w' := by
  obtain ⟨ad, cap, rfl, hc1, hc2⟩ := hrow.shape
  have hop := fit_op hfit
  unfold fitI at hfit
  unfold needI at hneed
  by_cases e1 : p.op = 1
  · rw [show stackI p d st = st ++ [p.n] by unfold stackI; rw [if_pos e1], show memI p d st = d by unfold memI; rw [if_neg (by omega)]]
    refine (l5Do_push w base _ _ _ ad st.length cap st p e1 hrow rfl hb (by omega) three_one).mono ?_
    rintro e w' ⟨v', he, hr, hbl⟩
    exact ⟨v', he, hr, hm.below hbl hib, .of_below hbl⟩
  by_cases e2 : p.op = 2
  · rw [show stackI p d st = st ++ [getD_ d p.ak p.at_] by unfold stackI; rw [if_neg e1, if_pos e2], show memI p d st = d by unfold memI; rw [if_neg (by omega)]]
    rw [if_neg e1, if_pos e2] at hfit
    simp only [Bool.and_eq_true] at hfit
    refine (l5Do_load w base _ _ _ ad st.length cap st p e2 hrow rfl hb (by omega) three_one lo hi d hm.mi hib hd hfit.1).mono ?_
    rintro e w' ⟨v', he, hr, hbl⟩
    exact ⟨v', he, hr, hm.below hbl hib, .of_below hbl⟩
  by_cases e3 : p.op = 3
  · rw [show stackI p d st = st.take (st.length - 1) by unfold stackI; rw [if_neg e1, if_neg e2, if_pos e3], show memI p d st = memSet d ⟨p.ak, p.at_⟩ (topI st) by unfold memI; rw [if_pos e3]]
    rw [if_neg e1, if_neg e2, if_pos e3] at hfit
    simp only [Bool.and_eq_true] at hfit
    rw [if_pos (.inl e3)] at hneed
    refine (l5Do_store w lo hi base _ _ _ ad st.length cap st p d e3 hrow rfl hb hm hib hd hfit.1 three_one (by omega)).mono ?_
    rintro e w' ⟨v', he, hr, hm', ho⟩
    exact ⟨v', he, hr, hm', .of_out ho hb⟩
  by_cases e4 : p.op = 4
  · rw [show stackI p d st = st.take (st.length - 2) ++ [twoZ p.n (sndI st) (topI st)] by unfold stackI; rw [if_neg e1, if_neg e2, if_neg e3, if_pos e4], show memI p d st = d by unfold memI; rw [if_neg e3]]
    rw [if_neg (by omega), if_pos e4] at hneed
    refine (l5Do_two w base _ _ _ ad st.length cap st p e4 hrow rfl hb (by omega) three_one (by omega)).mono ?_
    rintro e w' ⟨v', he, hr, hbl⟩
    exact ⟨v', he, hr, hm.below hbl hib, .of_below hbl⟩
  by_cases e5 : p.op = 5
  · rw [show stackI p d st = st.take (st.length - 1) ++ [isZ (!(topI st != 0))] by unfold stackI; rw [if_neg e1, if_neg e2, if_neg e3, if_neg e4, if_pos e5], show memI p d st = d by unfold memI; rw [if_neg e3]]
    rw [if_neg (by omega), if_neg e4, if_pos e5] at hneed
    refine (l5Do_not w base _ _ _ ad st.length cap st p e5 hrow rfl hb (by omega) three_one (by omega)).mono ?_
    rintro e w' ⟨v', he, hr, hbl⟩
    exact ⟨v', he, hr, hm.below hbl hib, .of_below hbl⟩
  by_cases e6 : p.op = 6
  · rw [show stackI p d st = st.take (st.length - 1) by unfold stackI; rw [if_neg e1, if_neg e2, if_neg e3, if_neg e4, if_neg e5, if_pos e6], show memI p d st = d by unfold memI; rw [if_neg e3]]
    rw [if_pos (.inr e6)] at hneed
    obtain ⟨g, cap', hv', _, _, _, _, _⟩ := hrow.block (by omega)
    simp only [Value.slice.injEq, true_and] at hv'
    obtain ⟨rfl, rfl⟩ := hv'
    refine (l5Do_skip w pa pb pc la ca lb cb lc cc st.length cap g p e6 (by omega) hc1 hc2).mono ?_
    rintro e w' ⟨he, hbl⟩
    exact ⟨_, he, (hrow.cut (st.length - 1) (by omega)).below hbl (Nat.le_refl _), hm.below hbl (by omega), .of_below (hbl.mono hb)⟩
  · rw [show stackI p d st = st by unfold stackI; rw [if_neg e1, if_neg e2, if_neg e3, if_neg e4, if_neg e5, if_neg e6], show memI p d st = d by unfold memI; rw [if_neg e3]]
    refine (l5Do_jump w pa pb pc ad la ca lb cb lc cc st.length cap p (by omega)).mono ?_
    rintro e w' ⟨he, hbl⟩
    exact ⟨_, he, hrow.below hbl (Nat.le_refl _), hm.below hbl (by omega), .of_below (hbl.mono hb)⟩
end Go.Proofs.YtdhpbiplkjpiiaaGreatDoor
