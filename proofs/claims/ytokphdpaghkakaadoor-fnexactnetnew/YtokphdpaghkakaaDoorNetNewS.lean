/-
  The model's NetNew. (Written by our generator gen_netnews.py.)
-/
import Derived.Test.YtokphdpaghkakaaDoorNetNewD
import Derived.Test.YtokphdpaghkakaaDoorDrawDag
import Derived.Test.YtokphdpaghkakaaDoorNetSpec
namespace Go.Proofs.YtokphdpaghkakaaDoor
open Go.ChangeShapes Go.WideShapes Go.ChangeAt Go.RowKit
set_option linter.unusedVariables false
set_option linter.unusedSimpArgs false
set_option maxRecDepth 100000

theorem zero_state : (Tryd.prog.info? 42).map (fun i => (i.zero, i.size)) = some (some (.agg [zSt, zSt].toArray), 2) := by kernel_rfl

/-- What holds as j blocks have been appended. -/
structure L7 (w : World) (n : NetD) (vw vd : Value) (j : Nat) (wr : World) (v : Value) : Prop where
  below : Below w.heap.size w wr
  nv : VarG wr w.heap.size [vw, vd]
  rv : VarG wr (w.heap.size + 1) [zSt, zSt]
  gl : GO bool2 wr (w.heap.size + 1 + 1) (w.heap.size + 1 + 1 + 1) (.slice (some ⟨w.heap.size + 1 + 1, 0, none⟩) n.ws.length n.ws.length) (List.replicate n.ws.length false)
  sv : VarG wr (w.heap.size + 1 + 1 + 1) [v, .slice (some ⟨w.heap.size + 1 + 1, 0, none⟩) n.ws.length n.ws.length]
  row : RowG blockE 73 wr (w.heap.size + 4) v ((n.ws.take j).map newB)
  lt : w.heap.size + 4 ≤ wr.heap.size

theorem L7.next {w : World} {n : NetD} {vw vd : Value} {j : Nat} {wr u u' : World} {v v' : Value} {own : Option Nat} (h : L7 w n vw vd j wr v) (hR : RowA own wr u) (ho : ∀ g, own = some g → w.heap.size + 4 ≤ g) {x : WireD} (hx : n.ws[j]? = some x)
    (hr : RowG blockE 73 u (w.heap.size + 4) v' ((n.ws.take j).map newB ++ [newB x])) (hL : LaidG u u' (w.heap.size + 1 + 1 + 1) 0 [v']) : L7 w n vw vd (j + 1) u' v' := by
  have hs := hR.size
  have hl := h.lt
  have hne : ∀ k, k < w.heap.size + 4 → some k ≠ own := fun k hk e => by have := ho k e.symm; omega
  have b1 : Below w.heap.size w u := ⟨(hR 0).os.trans h.below.os, (hR 0).tape.trans h.below.tape, (hR 0).output.trans h.below.output, by have := h.below.size; omega, fun q hq => by rw [hR.block q (by omega) (hne q (by omega))]; exact h.below.block q hq⟩
  refine ⟨hL.below _ _ (by omega) b1, hL.other (hR.var h.nv (by omega) (hne _ (by omega))) (by omega), hL.other (hR.var h.rv (by omega) (hne _ (by omega))) (by omega), ?_, ?_, ?_, by rw [hL.size]; omega⟩
  · exact h.gl.kept fun k q1 q2 => by rw [hL.block k (by omega), hR.block k (by omega) (hne k (by omega))]
  · exact (hR.var h.sv (by omega) (hne _ (by omega))).laid hL rfl (by simp)
  · have := hr.at_ (w' := u') fun g hg => hL.block g (by have := (hr.lt g hg).1; omega)
    rw [List.take_add_one, hx]
    simpa using this

set_option maxHeartbeats 16000000 in
theorem l7New_any (w : World) (lo hi : Nat) (v : Value) (n : NetD) (h : NI w lo hi v n) (hhi : hi ≤ w.heap.size) (h8 : n.ws.length ≤ 8) :
    Calls Tryd.prog 39 #[v] w fun e w' => ∃ v', e = .returned v' ∧ StO w' w.heap.size w'.heap.size v' ⟨n.ws.map newB, List.replicate n.ws.length false⟩ ∧ Below w.heap.size w w' := by
  have hZ := (zero_of_info (P := Tryd.prog) zero_state).1
  have hm1 := run_makeBo n.ws.length (by omega)
  obtain ⟨i0, hi0, hz0, hz1, hz2⟩ := info_parts info_blk
  obtain ⟨va, vb, rfl, hA, hB⟩ := h
  obtain ⟨ad, cap, rfl, k1, k1'⟩ := hA.shape
  obtain ⟨add, capd, rfl, _, _⟩ := hB.shape
  have HA : Hid (GR wireE w lo hi (.slice ad n.ws.length cap) n.ws) := hA
  clear hA hB
  unfold maxLen at k1'
  go_enter Tryd.func39, Tryd.ntmps39
  go_wp2_with (refine wpList_boxG (vs := [.slice ad n.ws.length cap, .slice add n.ds.length capd]) rfl _ rfl rfl ?_)
  intro u1 g1 p1 s1
  go_wp2_with (refine wpList_allocG hZ rfl rfl ?_)
  intro u2 g2 q2 s2
  have p2 := p1.below g2 (by omega)
  have G2 := g1.trans (g2.mono (by omega))
  have c0 : u2.cell? ⟨w.heap.size, 0, none⟩ = some (.slice ad n.ws.length cap) := p2.c 0 _ rfl
  have hlt : w.heap.size < u2.heap.size := by omega
  clear p1 g1 g2
  go_wp2_with (refine wpList_allocG hZ rfl rfl ?_)
  generalize hu3 : u2.alloc (.cells (madeCells #[Value.bool false] n.ws.length) 4) = u3
  have gl := made_go2 u2 n.ws.length 4 (by omega)
  have g3 : Below u2.heap.size u2 u3 := by rw [← hu3]; exact (Below.refl _ _).alloc (Nat.le_refl _) _
  have s3 : u3.heap.size = u2.heap.size + 1 := by rw [← hu3]; simp
  rw [hu3] at gl
  clear hu3 c0 hlt hm1
  intro u4 g4 sv s4
  have e2 : u2.heap.size = w.heap.size + 1 + 1 := by omega
  have e3 : u3.heap.size = w.heap.size + 1 + 1 + 1 := by omega
  rw [e2] at gl
  have gl4 := gl.under g4 (by omega)
  have p4 := (p2.below g3 (by omega)).below g4 (by omega)
  have q4 := (q2.below g3 (by omega)).below g4 (by omega)
  have G4 := (G2.trans (g3.mono (by omega))).trans (g4.mono (by omega))
  clear p2 q2 gl g3 g4 G2
  have hr4 := sv.run 0 2 (show 0 + 2 ≤ 2 by decide)
  go_wp2_with (refine wpList_storeG Tryd.sizeOf42 (vs := [zSt, .slice (some ⟨w.heap.size + 1 + 1, 0, none⟩) n.ws.length n.ws.length]) _ _ rfl rfl rfl rfl rfl (pair_one rfl rfl) hr4.1 hr4.2 ?_)
  intro u5 L5
  have hI : L7 w n (.slice ad n.ws.length cap) (.slice add n.ds.length capd) 0 u5 zSt :=
    ⟨L5.below _ _ (by omega) G4, L5.other p4 (by omega), L5.other q4 (by omega), gl4.kept (fun k r1 r2 => L5.block k (by omega)), L5.var sv, rowG_nil _ _ _, by rw [L5.size]; omega⟩
  have HI : Hid (L7 w n (.slice ad n.ws.length cap) (.slice add n.ds.length capd) 0 u5 zSt) := hI
  clear hI L5 gl4 p4 q4 sv hr4 G4 s1 s2 s3 s4 e2 e3
  go_wp2_with fail
  go_loopw [4] (fun i wr => ∃ (j : Nat) (v : Value), i = .int .i64 j ∧ j ≤ n.ws.length ∧ L7 w n (.slice ad n.ws.length cap) (.slice add n.ds.length capd) j wr v) (fun i _ => n.ws.length - (intOf i).toNat)
  case atStart => exact ⟨0, _, rfl, Nat.zero_le _, HI.out⟩
  case round =>
    clear HI
    obtain ⟨j, v, rfl, hj, hI⟩ := hrel
    have c0 : wr.cell? ⟨w.heap.size, 0, none⟩ = some (.slice ad n.ws.length cap) := hI.nv.c 0 _ rfl
    by_cases hjl : j < n.ws.length
    · have hjl' : (j : Int) < (n.ws.length : Int) := by omega
      obtain ⟨x, hx⟩ : ∃ x, n.ws[j]? = some x := ⟨n.ws[j], List.getElem?_eq_getElem hjl⟩
      obtain ⟨b, off, cap', hv, hb1, hb2, h5⟩ := HA.out.at_ hx
      simp only [Value.slice.injEq, true_and] at hv
      obtain ⟨rfl, rfl⟩ := hv
      have h5 : CV w b (off + j * 12) (wireC x) := h5
      have hrow := hI.row.lt
      obtain ⟨ys, hys⟩ : ∃ ys, (n.ws.take j).map newB = ys := ⟨_, rfl⟩
      have HYL : Hid (ys.length = j) := by show ys.length = j; rw [← hys, List.length_map, List.length_take]; omega
      obtain ⟨adv, cv, hv⟩ := hI.row.shape
      rw [hys] at hv
      subst hv
      have hlt := hI.lt
      have hne : ∀ k, k < w.heap.size + 4 → some k ≠ (Value.slice adv ys.length cv).ownBlock := fun k hk e => by have := (hrow k e.symm).1; omega
      have HI : Hid (L7 w n (.slice (some ⟨b, off, none⟩) n.ws.length cap) (.slice add n.ds.length capd) j wr (.slice adv ys.length cv)) := hI
      have HY : Hid ((n.ws.take j).map newB = ys) := hys
      have HX : Hid (n.ws[j]? = some x) := hx
      have H5 : Hid (CV w b (off + j * 12) (wireC x)) := h5
      clear hI hx h5 hys
      go_wp2_with fail
      clear c0
      refine wp_region_last (R := RowA (Value.slice adv ys.length cv).ownBlock) (Φ := fun i v u => match i with
          | 0 => v = .pointer (some ⟨w.heap.size + 1 + 1 + 1, 0, none⟩)
          | 1 => v = .slice adv ys.length cv
          | 2 => v = .pointer (some ⟨w.heap.size, 0, none⟩)
          | 3 => v = .slice (some ⟨b, off, none⟩) n.ws.length cap
          | 4 => v = .int .i64 j
          | 5 => v = .pointer (some ⟨b, off + j * 12, none⟩)
          | 6 => v = .pointer (some ⟨b, off + j * 12, none⟩)
          | 7 => v = .int .i64 x.kind
          | 8 => v = .pointer (some ⟨w.heap.size, 0, none⟩)
          | 9 => v = .slice (some ⟨b, off, none⟩) n.ws.length cap
          | 10 => v = .int .i64 j
          | 11 => v = .pointer (some ⟨b, off + j * 12, none⟩)
          | 12 => v = .pointer (some ⟨b, off + j * 12 + 1, none⟩)
          | 13 => v = .int .i64 x.n
          | 14 => v = .agg (blockC (newB x)).toArray
          | 15 => ∃ g, v = .slice (some ⟨g, 0, none⟩) 1 1 ∧ u.heap[g]? = some (.cells (blockC (newB x)).toArray 73) ∧ wr.heap.size ≤ g ∧ g < u.heap.size
          | 16 => True
          | 17 => v = .pointer (some ⟨w.heap.size + 1 + 1 + 1, 0, none⟩)
          | _ => True)
        (J := fun L a u => KidJ 99 16 33 (fun _ => True) (fun _ => True) (fun u => RowG blockE 73 u (w.heap.size + 4) (.slice adv ys.length cv) ys) (fun v u => RowG blockE 73 u (w.heap.size + 4) v (ys ++ [newB x])) L a u) 18 _ rfl rfl (by kernel_rfl) (by kernel_rfl) (by kernel_rfl) (by kernel_rfl) (fun _ => RowR.refl _ _ _) (fun _ _ _ h k B => (h B).trans (k B)) ?_ ⟨fun _ => trivial, fun _ => trivial, fun _ => by have := HI.out.row.below (Below.drew (Below.refl _ _)) (Nat.le_refl _); rwa [HY.out] at this, fun h => by simp at h⟩ ?_ ?_
      · intro i v u u' hr
        match i with
        | 0 | 1 | 2 | 3 | 4 | 5 | 6 | 7 | 8 | 9 | 10 | 11 | 12 | 13 | 14 | 17 | _ + 18 => exact fun h => h
        | 15 => exact fun ⟨g, h1, h2, h3, h4⟩ => ⟨g, h1, by rw [hr.block g h4 fun e => by have := (hrow g e.symm).2; omega]; exact h2, h3, Nat.lt_of_lt_of_le h4 hr.size⟩
        | 16 => exact fun h => h
      · intro i o ho hin L ac u hf hR0 hLs hLi hp he hJ K' hK
        have hR : RowA (Value.slice adv ys.length cv).ownBlock wr u := fun B => (RowR.of_below (Below.drew (Below.refl _ _))).trans (hR0 B)
        have hsz' : ac.tmps.size = 36 := hf.size
        have hus := hR.size
        have hbw : Below w.heap.size w u := ⟨(hR 0).os.trans HI.out.below.os, (hR 0).tape.trans HI.out.below.tape, (hR 0).output.trans HI.out.below.output, by have := HI.out.below.size; omega, fun q hq => by rw [hR.block q (by have := HI.out.below.size; omega) (hne q (by omega))]; exact HI.out.below.block q hq⟩
        rcases i with _ | _ | _ | _ | _ | _ | _ | _ | _ | _ | _ | _ | _ | _ | _ | _ | _ | _ | i
        · obtain rfl := Option.some.inj ho
          have q3 : ac.tmps.getD 3 undef = .pointer (some ⟨w.heap.size + 1 + 1 + 1, 0, none⟩) := hf.at_ 3 (by kernel_rfl)
          clear hp he
          go_simp
          exact hK _ _ (fun _ => RowR.refl _ _ _) (getD_put_self ac 17 _ (by show _ < ac.tmps.size; omega)) (hJ.other (by decide) (by decide) (by decide) id id id fun _ h => h)
        · obtain rfl := Option.some.inj ho
          have q17 : ac.tmps.getD 17 undef = .pointer (some ⟨w.heap.size + 1 + 1 + 1, 0, none⟩) := hp 0 _ rfl (he _ (Array.mem_of_getElem? (i := 0) rfl) (by kernel_rfl))
          clear hp he
          have c0 := (hR.var HI.out.sv (by omega) (hne _ (by omega))).c 0 _ rfl
          rw [Nat.zero_add] at c0
          go_simp
          exact hK _ _ (fun _ => RowR.refl _ _ _) (getD_put_self ac 18 _ (by show _ < ac.tmps.size; omega)) (hJ.other (by decide) (by decide) (by decide) id id id fun _ h => h)
        · obtain rfl := Option.some.inj ho
          have q1 : ac.tmps.getD 1 undef = .pointer (some ⟨w.heap.size, 0, none⟩) := hf.at_ 1 (by kernel_rfl)
          clear hp he
          go_simp
          exact hK _ _ (fun _ => RowR.refl _ _ _) (getD_put_self ac 19 _ (by show _ < ac.tmps.size; omega)) (hJ.other (by decide) (by decide) (by decide) id id id fun _ h => h)
        · obtain rfl := Option.some.inj ho
          have q19 : ac.tmps.getD 19 undef = .pointer (some ⟨w.heap.size, 0, none⟩) := hp 2 _ rfl (he _ (Array.mem_of_getElem? (i := 0) rfl) (by kernel_rfl))
          clear hp he
          have c0 := (hR.var HI.out.nv (by omega) (hne _ (by omega))).c 0 _ rfl
          rw [Nat.zero_add] at c0
          go_simp
          exact hK _ _ (fun _ => RowR.refl _ _ _) (getD_put_self ac 20 _ (by show _ < ac.tmps.size; omega)) (hJ.other (by decide) (by decide) (by decide) id id id fun _ h => h)
        · obtain rfl := Option.some.inj ho
          have q4 : ac.tmps.getD 4 undef = .int .i64 j := hf.at_ 4 (by kernel_rfl)
          clear hp he
          go_simp
          exact hK _ _ (fun _ => RowR.refl _ _ _) (getD_put_self ac 21 _ (by show _ < ac.tmps.size; omega)) (hJ.other (by decide) (by decide) (by decide) id id id fun _ h => h)
        · obtain rfl := Option.some.inj ho
          have q20 : ac.tmps.getD 20 undef = .slice (some ⟨b, off, none⟩) n.ws.length cap := hp 3 _ rfl (he _ (Array.mem_of_getElem? (i := 0) rfl) (by kernel_rfl))
          have q21 : ac.tmps.getD 21 undef = .int .i64 j := hp 4 _ rfl (he _ (Array.mem_of_getElem? (i := 1) rfl) (by kernel_rfl))
          clear hp he
          go_simp
          exact hK _ _ (fun _ => RowR.refl _ _ _) (getD_put_self ac 22 _ (by show _ < ac.tmps.size; omega)) (hJ.other (by decide) (by decide) (by decide) id id id fun _ h => h)
        · obtain rfl := Option.some.inj ho
          have q22 : ac.tmps.getD 22 undef = .pointer (some ⟨b, off + j * 12, none⟩) := hp 5 _ rfl (he _ (Array.mem_of_getElem? (i := 0) rfl) (by kernel_rfl))
          clear hp he
          go_simp
          exact hK _ _ (fun _ => RowR.refl _ _ _) (getD_put_self ac 23 _ (by show _ < ac.tmps.size; omega)) (hJ.other (by decide) (by decide) (by decide) id id id fun _ h => h)
        · obtain rfl := Option.some.inj ho
          have q23 : ac.tmps.getD 23 undef = .pointer (some ⟨b, off + j * 12, none⟩) := hp 6 _ rfl (he _ (Array.mem_of_getElem? (i := 0) rfl) (by kernel_rfl))
          clear hp he
          have c1 : u.cell? ⟨b, off + j * 12, none⟩ = some (.int .i64 x.kind) := (H5.out.kept (hbw.block b (by omega))) 0 _ rfl
          go_simp
          exact hK _ _ (fun _ => RowR.refl _ _ _) (getD_put_self ac 24 _ (by show _ < ac.tmps.size; omega)) (hJ.other (by decide) (by decide) (by decide) id id id fun _ h => h)
        · obtain rfl := Option.some.inj ho
          have q1 : ac.tmps.getD 1 undef = .pointer (some ⟨w.heap.size, 0, none⟩) := hf.at_ 1 (by kernel_rfl)
          clear hp he
          go_simp
          exact hK _ _ (fun _ => RowR.refl _ _ _) (getD_put_self ac 25 _ (by show _ < ac.tmps.size; omega)) (hJ.other (by decide) (by decide) (by decide) id id id fun _ h => h)
        · obtain rfl := Option.some.inj ho
          have q25 : ac.tmps.getD 25 undef = .pointer (some ⟨w.heap.size, 0, none⟩) := hp 8 _ rfl (he _ (Array.mem_of_getElem? (i := 0) rfl) (by kernel_rfl))
          clear hp he
          have c0 := (hR.var HI.out.nv (by omega) (hne _ (by omega))).c 0 _ rfl
          rw [Nat.zero_add] at c0
          go_simp
          exact hK _ _ (fun _ => RowR.refl _ _ _) (getD_put_self ac 26 _ (by show _ < ac.tmps.size; omega)) (hJ.other (by decide) (by decide) (by decide) id id id fun _ h => h)
        · obtain rfl := Option.some.inj ho
          have q4 : ac.tmps.getD 4 undef = .int .i64 j := hf.at_ 4 (by kernel_rfl)
          clear hp he
          go_simp
          exact hK _ _ (fun _ => RowR.refl _ _ _) (getD_put_self ac 27 _ (by show _ < ac.tmps.size; omega)) (hJ.other (by decide) (by decide) (by decide) id id id fun _ h => h)
        · obtain rfl := Option.some.inj ho
          have q26 : ac.tmps.getD 26 undef = .slice (some ⟨b, off, none⟩) n.ws.length cap := hp 9 _ rfl (he _ (Array.mem_of_getElem? (i := 0) rfl) (by kernel_rfl))
          have q27 : ac.tmps.getD 27 undef = .int .i64 j := hp 10 _ rfl (he _ (Array.mem_of_getElem? (i := 1) rfl) (by kernel_rfl))
          clear hp he
          go_simp
          exact hK _ _ (fun _ => RowR.refl _ _ _) (getD_put_self ac 28 _ (by show _ < ac.tmps.size; omega)) (hJ.other (by decide) (by decide) (by decide) id id id fun _ h => h)
        · obtain rfl := Option.some.inj ho
          have q28 : ac.tmps.getD 28 undef = .pointer (some ⟨b, off + j * 12, none⟩) := hp 11 _ rfl (he _ (Array.mem_of_getElem? (i := 0) rfl) (by kernel_rfl))
          clear hp he
          go_simp
          exact hK _ _ (fun _ => RowR.refl _ _ _) (getD_put_self ac 29 _ (by show _ < ac.tmps.size; omega)) (hJ.other (by decide) (by decide) (by decide) id id id fun _ h => h)
        · obtain rfl := Option.some.inj ho
          have q29 : ac.tmps.getD 29 undef = .pointer (some ⟨b, off + j * 12 + 1, none⟩) := hp 12 _ rfl (he _ (Array.mem_of_getElem? (i := 0) rfl) (by kernel_rfl))
          clear hp he
          have c1 : u.cell? ⟨b, off + j * 12 + 1, none⟩ = some (.int .i64 x.n) := (H5.out.kept (hbw.block b (by omega))) 1 _ rfl
          go_simp
          exact hK _ _ (fun _ => RowR.refl _ _ _) (getD_put_self ac 30 _ (by show _ < ac.tmps.size; omega)) (hJ.other (by decide) (by decide) (by decide) id id id fun _ h => h)
        · obtain rfl := Option.some.inj ho
          have q24 : ac.tmps.getD 24 undef = .int .i64 x.kind := hp 7 _ rfl (he _ (Array.mem_of_getElem? (i := 0) rfl) (by kernel_rfl))
          have q30 : ac.tmps.getD 30 undef = .int .i64 x.n := hp 13 _ rfl (he _ (Array.mem_of_getElem? (i := 1) rfl) (by kernel_rfl))
          clear hp he
          go_simp
          refine (sBlockNew_any u x.kind x.n).mono ?_
          rintro e1 u' ⟨rfl, hbu⟩
          exact hK _ _ (fun _ => RowR.of_below hbu) (getD_put_self ac 31 _ (by show _ < ac.tmps.size; omega)) (hJ.other (by decide) (by decide) (by decide) id id (fun h => h.below hbu (Nat.le_refl _)) fun _ h => h.below hbu (Nat.le_refl _))
        · obtain rfl := Option.some.inj ho
          have q31 : ac.tmps.getD 31 undef = .agg (blockC (newB x)).toArray := hp 14 _ rfl (he _ (Array.mem_of_getElem? (i := 0) rfl) (by kernel_rfl))
          clear hp he
          have q31b : ac.tmps[31]?.getD undef = .agg (blockC (newB x)).toArray := by rw [← q31]; exact (Array.getD_eq_getD_getElem? ..).symm
          have HZ : Hid (ac.tmps.size = 36) := hsz'
          have g1 : Below u.heap.size u (u.alloc (.cells (blockC (newB x)).toArray 73)) := (Below.refl _ _).alloc (Nat.le_refl _) _
          clear hsz' q31
          go_simp
          have hsz' := HZ.out
          exact hK _ _ (fun _ => RowR.of_below g1) ⟨u.heap.size, getD_put_self ac 32 _ (by show _ < ac.tmps.size; omega), heap_alloc_new u _, hus, by simp⟩ (hJ.other (by decide) (by decide) (by decide) id id (fun h => h.below g1 (Nat.le_refl _)) fun _ h => h.below g1 (Nat.le_refl _))
        · obtain rfl := Option.some.inj ho
          have q18 : ac.tmps.getD 18 undef = .slice adv ys.length cv := hp 1 _ rfl (he _ (Array.mem_of_getElem? (i := 0) rfl) (by kernel_rfl))
          have hyl := HYL.out
          obtain ⟨g, q32, hgb, hg1, hg2⟩ := hp 15 _ rfl (he _ (Array.mem_of_getElem? (i := 1) rfl) (by kernel_rfl))
          have q32 : ac.tmps.getD 32 undef = .slice (some ⟨g, 0, none⟩) 1 1 := q32
          have hrw : RowG blockE 73 u (w.heap.size + 4) (.slice adv ys.length cv) ys := hJ.2.2.1 hLi
          clear hp he
          refine step_append_lies _ rfl (.tmp 18) (.tmp 32) 39 rfl (w.heap.size + 4) 73 i0 (.agg #[.int .i64 0, .int .i64 0, .bool false, .bool false, .int .i64 0]) 5 32 Tryd.underlying39 hi0 hz0 hz1 hz2 rfl (by decide) (.slice adv ys.length cv) ys.length (rowG blockE ys) q18 hrw ⟨g, 0, none⟩ 1 1 (blockC (newB x)) q32 rfl (World.news_of_block hgb) (blockC_one _) (by decide) (by unfold maxLen; omega) (by omega) (by omega) u.heap.size rfl ?_
          intro g' c' u1 hown' hgrow hat2 hlt2
          have gb := (Below.refl 0 u).grown hgrow (Nat.zero_le _) (fun _ _ => Nat.zero_le _)
          have hrw' : RowG blockE 73 u1 (w.heap.size + 4) (.slice (some ⟨g', 0, none⟩) (ys.length + 1) c') (ys ++ [newB x]) := by unfold RowG; rw [rowG_snoc, List.length_append]; exact hown'
          exact hK _ _ (fun _ => RowR.of_grown hgrow gb.os gb.tape gb.output) trivial (hJ.app (by show 16 < L.size; rw [hLs]; decide) (by decide) (by show _ < ac.tmps.size; omega) id id hrw')
        · obtain rfl := Option.some.inj ho
          have q3 : ac.tmps.getD 3 undef = .pointer (some ⟨w.heap.size + 1 + 1 + 1, 0, none⟩) := hf.at_ 3 (by kernel_rfl)
          clear hp he
          go_simp
          exact hK _ _ (fun _ => RowR.refl _ _ _) (getD_put_self ac 34 _ (by show _ < ac.tmps.size; omega)) (hJ.other (by decide) (by decide) (by decide) id id id fun _ h => h)
        · omega
      · intro L ac u hf hR0 hp hJ K' hK
        have hR : RowA (Value.slice adv ys.length cv).ownBlock wr u := fun B => (RowR.of_below (Below.drew (Below.refl _ _))).trans (hR0 B)
        have hus := hR.size
        have q34 : ac.tmps.getD 34 undef = .pointer (some ⟨w.heap.size + 1 + 1 + 1, 0, none⟩) := (hp 17 _ (by decide) rfl).2
        have hrw : RowG blockE 73 u (w.heap.size + 4) (ac.tmps.getD 33 undef) (ys ++ [newB x]) := hJ.2.2.2 (hp 16 _ (by decide) rfl).1
        obtain ⟨ad', c', q33⟩ := hrw.shape
        rw [q33] at hrw
        have hsu := hR.var HI.out.sv (by omega) (hne _ (by omega))
        refine wantedG rfl (wp_store1G Tryd.sizeOf39 (z := .slice ad' (ys ++ [newB x]).length c') _ _ rfl (B := w.heap.size + 1 + 1 + 1) (x := 0) q34 q33 rfl rfl (hsu.one (by simp)) (hsu.f 0) ?_)
        intro u5 L5
        refine hK _ _ ?_
        have hnext := HI.out.next hR (fun g hg => (hrow g hg).1) HX.out (v' := .slice ad' (ys ++ [newB x]).length c') (by rw [HY.out]; exact hrw) L5
        have HN : Hid (L7 w n (.slice (some ⟨b, off, none⟩) n.ws.length cap) (.slice add n.ds.length capd) (j + 1) u5 (.slice ad' (ys ++ [newB x]).length c')) := hnext
        clear hK L5 hnext hrw hsu hp hJ hR0 q33 q34
        obtain ⟨fq, ea, hfv⟩ := act_lit ac 36 hf.size
        have md : ac.defers = [] := hf.defers
        rw [md] at ea
        have m0 := hf.at_ 0 (by kernel_rfl)
        have m1 := hf.at_ 1 (by kernel_rfl)
        have m2 := hf.at_ 2 (by kernel_rfl)
        have m3 := hf.at_ 3 (by kernel_rfl)
        have m4 := hf.at_ 4 (by kernel_rfl)
        have m5 := hf.at_ 5 (by kernel_rfl)
        have m6 := hf.at_ 6 (by kernel_rfl)
        have m7 := hf.at_ 7 (by kernel_rfl)
        have m8 := hf.at_ 8 (by kernel_rfl)
        have m9 := hf.at_ 9 (by kernel_rfl)
        have m10 := hf.at_ 10 (by kernel_rfl)
        have m11 := hf.at_ 11 (by kernel_rfl)
        have m12 := hf.at_ 12 (by kernel_rfl)
        have m13 := hf.at_ 13 (by kernel_rfl)
        have m14 := hf.at_ 14 (by kernel_rfl)
        have m15 := hf.at_ 15 (by kernel_rfl)
        have m16 := hf.at_ 16 (by kernel_rfl)
        have m35 := hf.at_ 35 (by kernel_rfl)
        rw [← hfv] at m0 m1 m2 m3 m4 m5 m6 m7 m8 m9 m10 m11 m12 m13 m14 m15 m16 m35
        simp only [Array.getD_eq_getD_getElem?, List.getElem?_toArray, List.getElem?_cons_succ, List.getElem?_cons_zero, Option.getD_some] at m0 m1 m2 m3 m4 m5 m6 m7 m8 m9 m10 m11 m12 m13 m14 m15 m16 m35
        simp only [List.range, List.range.loop, List.map_cons, List.map_nil, m0, m1, m2, m3, m4, m5, m6, m7, m8, m9, m10, m11, m12, m13, m14, m15, m16, m35] at ea
        subst ea
        clear m0 m1 m2 m3 m4 m5 m6 m7 m8 m9 m10 m11 m12 m13 m14 m15 m16 m35 hfv md hf
        go_wp2
        go_roundw
        case rel => exact ⟨j + 1, _, by go_num, by omega, HN.out⟩
        case measure => simp [intOf]; omega
    · have hjl' : ¬ (j : Int) < (n.ws.length : Int) := by omega
      obtain rfl : j = n.ws.length := by omega
      have hq := hI.row
      rw [List.take_length] at hq
      obtain ⟨adv, cv, hv⟩ := hq.shape
      subst hv
      have hsv := hI.sv
      have hrr := hI.rv.run 0 2 (show 0 + 2 ≤ 2 by decide)
      have hlt := hI.lt
      have HI : Hid (L7 w n (.slice ad n.ws.length cap) (.slice add n.ds.length capd) n.ws.length wr _) := hI
      have HQ : Hid (RowG blockE 73 wr (w.heap.size + 4) _ (n.ws.map newB)) := hq
      clear hI hq
      go_wp2_with (first
        | refine wpList_loadG Tryd.isAgg42 Tryd.sizeOf42 _ rfl rfl rfl rfl hsv.c ?_
        | refine wpList_storeG Tryd.sizeOf42 (vs := [.slice adv (n.ws.map newB).length cv, .slice (some ⟨w.heap.size + 1 + 1, 0, none⟩) n.ws.length n.ws.length]) _ _ rfl rfl rfl rfl rfl (pair_one rfl rfl) hrr.1 hrr.2 ?_)
      intro u5 L5
      have s5 := L5.size
      have q5 := L5.var HI.out.rv
      have A5 := (HQ.out.at_ (w' := u5) fun g hg => L5.block g (by have := (HQ.out.lt g hg).1; omega)).go
      have B5 := HI.out.gl.kept (fun k r1 r2 => L5.block k (by omega))
      have G5 := L5.below _ _ (by omega) HI.out.below
      clear L5 hsv hrr c0
      go_wp2
      refine bodyPost_ret (v := .agg [.slice adv (n.ws.map newB).length cv, .slice (some ⟨w.heap.size + 1 + 1, 0, none⟩) n.ws.length n.ws.length].toArray) ?_ rfl ⟨_, rfl, ⟨_, _, _, _, _, _, rfl, A5, B5, ⟨by omega, by omega⟩, ⟨by omega, by omega⟩, by omega⟩, G5⟩
      simp [results, Tryd.results39]
      exact run_loadVarG (P := Tryd.prog) Tryd.isAgg42 Tryd.sizeOf42 rfl q5.c

set_option maxHeartbeats 8000000 in
theorem sNetNew_any (w : World) (lo hi : Nat) (v : Value) (c : NetD) (h : NI w lo hi v c) (hhi : hi ≤ w.heap.size) :
    Calls Tryd.prog 16 #[v] w fun e w' => ∃ v', e = .returned v' ∧ StO w' w.heap.size w'.heap.size v' (netNew c) ∧ Below w.heap.size w w' := by
  obtain ⟨q, hq⟩ : ∃ q, netNew c = q := ⟨_, rfl⟩
  rw [hq]
  have HQ : Hid (netNew c = q) := hq
  clear hq
  have hZ := (zero_of_info (P := Tryd.prog) zero_state).1
  obtain ⟨va, vb, rfl, hA, hB⟩ := h
  obtain ⟨ad, cap, rfl, _, _⟩ := hA.shape
  obtain ⟨ad', cap', rfl, _, _⟩ := hB.shape
  have HA : Hid (NI w lo hi (.agg #[.slice ad c.ws.length cap, .slice ad' c.ds.length cap']) c) := ⟨_, _, rfl, hA, hB⟩
  clear hA hB
  go_enter Tryd.func16, Tryd.ntmps16
  go_wp2_with (refine wpList_boxG (vs := [.slice ad c.ws.length cap, .slice ad' c.ds.length cap']) rfl _ rfl rfl ?_)
  intro u1 g1 p1 s1
  go_wp2_with (refine wpList_allocG hZ rfl rfl ?_)
  intro u2 g2 q2 s2
  have p2 := p1.below g2 (by omega)
  have G2 := g1.trans (g2.mono (by omega))
  clear g1 g2 p1
  have hc := p2.c
  go_wp2_with (refine wpList_loadG Tryd.isAgg32 Tryd.sizeOf32 _ rfl rfl rfl rfl hc ?_)
  clear hc
  refine (sNetOk_any u2 lo hi _ c (HA.out.under G2 hhi) (by omega)).mono ?_
  obtain ⟨r, hr⟩ : ∃ r, netOk c = r := ⟨_, rfl⟩
  rw [hr]
  rintro e3 u3 ⟨rfl, g3⟩
  have s3 := g3.size
  have p3 := p2.below g3 (by omega)
  have q3 := q2.below g3 (by omega)
  have G3 := G2.trans (g3.mono (by omega))
  clear g3 p2 q2 G2
  cases r
  · have HN : Hid (q = ⟨[], []⟩) := by show q = _; rw [← HQ.out, netNew_no hr]
    have hrr := q3.run 0 2 (show 0 + 2 ≤ 2 by decide)
    clear hr
    go_wp2_with (refine wpList_storeG Tryd.sizeOf42 (vs := [zSt, zSt]) _ _ rfl rfl rfl rfl rfl (pair_one rfl rfl) hrr.1 hrr.2 ?_)
    intro u4 L4
    have s4 := L4.size
    have q4 := L4.var q3
    have G4 := L4.below _ _ (by omega) G3
    clear L4 q3 G3 hrr
    go_wp2
    refine bodyPost_ret (v := .agg [zSt, zSt].toArray) ?_ rfl ⟨_, rfl, by rw [HN.out]; exact stO_nil _ _ _ (by have := G4.size; omega), G4⟩
    simp [results, Tryd.results16]
    exact run_loadVarG (P := Tryd.prog) Tryd.isAgg42 Tryd.sizeOf42 rfl q4.c
  · have hcy := netNew_yes hr
    have hsm := netOk_eight hr
    clear hr
    have HN : Hid (q = ⟨c.ws.map newB, List.replicate c.ws.length false⟩) := by show q = _; rw [← HQ.out, hcy]
    clear hcy
    have hl := l7New_any u3 lo hi _ c (HA.out.under G3 hhi) (by omega) hsm
    have hc := p3.c
    go_wp2_with (refine wpList_loadG Tryd.isAgg32 Tryd.sizeOf32 _ rfl rfl rfl rfl hc ?_)
    clear hc
    refine hl.mono ?_
    clear hl
    rintro e4 u4 ⟨v4, rfl, O4, g4⟩
    obtain ⟨a4, c4, b4, e4, rfl⟩ := O4.shape
    have s4 := g4.size
    have q4 := q3.below g4 (by omega)
    have G4 := G3.trans (g4.mono (by omega))
    clear g4 q3 G3 p3
    have hrr := q4.run 0 2 (show 0 + 2 ≤ 2 by decide)
    go_wp2_with (refine wpList_storeG Tryd.sizeOf42 (vs := [.slice a4 _ c4, .slice b4 _ e4]) _ _ rfl rfl rfl rfl rfl (pair_one rfl rfl) hrr.1 hrr.2 ?_)
    intro u5 L5
    have s5 := L5.size
    have q5 := L5.var q4
    have O5 := O4.kept_ (fun k r1 r2 => L5.block k (by omega))
    have G5 := L5.below _ _ (by omega) G4
    clear L5 q4 G4 hrr O4
    go_wp2
    refine bodyPost_ret (v := .agg [.slice a4 _ c4, .slice b4 _ e4].toArray) ?_ rfl ⟨_, rfl, by rw [HN.out]; exact O5.wide (by omega) (by omega), G5⟩
    simp [results, Tryd.results16]
    exact run_loadVarG (P := Tryd.prog) Tryd.isAgg42 Tryd.sizeOf42 rfl q5.c
end Go.Proofs.YtokphdpaghkakaaDoor
