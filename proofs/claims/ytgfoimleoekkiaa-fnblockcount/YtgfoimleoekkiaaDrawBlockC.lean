/-
  What the draws of chapter 6 (package spec) answer over any bytes. (Written by our generator gen_drawblock.py.)
-/
import Derived.Test.YtgfoimleoekkiaaDrawBlockB
import Derived.Test.YtgfoimleoekkiaaDag2
namespace Go.Proofs.Ytgfoimleoekkiaa
open Go.ChangeShapes Go.WideShapes Go.ChangeAt Go.RowKit
set_option linter.unusedVariables false
set_option linter.unusedSimpArgs false
set_option maxRecDepth 100000

set_option maxHeartbeats 1000000 in
theorem drawBlockNew_any (w : World) (a : Option Addr) (len cap : Nat) (hb : Bytes8 w w.heap.size a len) (hlc : len ≤ cap) (hm : cap ≤ maxLen) :
    Calls Try.prog 17 #[.slice a len cap] w fun e w' => ∃ k n, e = .returned (.tuple #[.int .i64 k, .int .i64 n]) ∧ -1 ≤ n ∧ n ≤ 1001 ∧ Below w.heap.size w w' := by
  go_enter Try.func17, Try.ntmps17
  go_wp2_with fail
  refine (open_any w a len cap hb hlc hm).mono ?_
  rintro e u1 ⟨len', rfl, hr, g1⟩
  have s1 := g1.size
  have R1 : RdQ w.heap.size w.heap.size a len' cap 0 u1 := ⟨0, by omega, hr⟩
  have hB := R1.hi
  clear hr hb
  go_wp2_with fail
  refine (l6Kind_any _ _ _ a len' cap 0 R1 (by omega)).mono ?_
  rintro e u2 ⟨k, n, rfl, _, hn0, hn1, R2, A2⟩
  have s2 := A2.size
  have G2 := g1.trans (A2.old (Nat.le_refl _) (by omega))
  clear g1 A2 R1
  go_wp2_with fail
  refine (pickQ _ _ _ a len' cap _ 6 R2 (by omega) (by omega) (by omega)).mono ?_
  rintro e u3 ⟨r, rfl, hr0, hr1, R3, A3⟩
  have s3 := A3.size
  have G3 := G2.trans (A3.old (Nat.le_refl _) (by omega))
  clear G2 A3 R2
  by_cases h0 : r = 0
  · subst h0
    go_wp2_with fail
    refine (pickQ _ _ _ a len' cap _ 8 R3 (by omega) (by omega) (by omega)).mono ?_
    rintro e u4 ⟨r, rfl, hr0, hr1, R4, A4⟩
    have s4 := A4.size
    have G4 := G3.trans (A4.old (Nat.le_refl _) (by omega))
    clear G3 A4 R3
    go_wp2_with fail
    refine (numQ _ _ _ a len' cap _ u4.heap.size 0 5 5 (R4.kept ((Below.refl _ _).alloc (Nat.le_refl _) _)) (by omega) (by omega) (by omega) (by omega) (by exact ints_new _ _ _ _ rfl rfl)).mono ?_
    rintro e u5 ⟨v, i, rfl, hi, hv, R5, A5⟩
    have hmem := drawn_in u4 [0, 1, -1, 1000, 1001] _ i v hv
    simp at hmem
    have HG : Hid (Below w.heap.size w u5) := (G4.trans ((Below.refl _ _).alloc (by omega) _)).trans (A5.old (Nat.le_refl _) (by rw [World.size_alloc]; omega))
    clear G4 hv R4 A5
    go_wp2
    go_ret2
    exact ⟨_, _, rfl, by omega, by omega, HG.out⟩
  · have h0' : (r == 0) = false := by simpa using h0
    clear h0 R3
    go_wp2
    go_ret2
    exact ⟨_, _, rfl, by omega, by omega, G3⟩

set_option maxHeartbeats 1000000 in
theorem drawBlockOk_any (w : World) (a : Option Addr) (len cap : Nat) (hb : Bytes8 w w.heap.size a len) (hlc : len ≤ cap) (hm : cap ≤ maxLen) :
    Calls Try.prog 20 #[.slice a len cap] w fun e w' => ∃ b : BlockD, e = .returned b.val ∧ Below w.heap.size w w' := by
  go_enter Try.func20, Try.ntmps20
  go_wp2_with (refine wpList_allocB rfl rfl ?_)
  intro u0 g0 p0 s0
  have hb0 : Bytes8 u0 w.heap.size a len := by
    rcases hb with h0 | ⟨b, off, ha, hb', hc⟩
    · exact .inl h0
    · exact .inr ⟨b, off, ha, hb', fun i hi => by rw [g0.cell (p := ⟨b, off + i, none⟩) hb']; exact hc i hi⟩
  clear hb
  go_wp2_with fail
  refine (open_low w.heap.size u0 a len cap (by omega) hb0 hlc hm).mono ?_
  rintro e u1 ⟨len', rfl, hr, g1⟩
  have s1 := g1.size
  obtain ⟨B, hB⟩ : ∃ B, u0.heap.size = B := ⟨_, rfl⟩
  rw [hB] at hr ⊢
  have R1 : RdQ w.heap.size B a len' cap 0 u1 := ⟨0, by omega, hr⟩
  have hB1 := R1.hi
  have p1 := p0.below g1 (by omega)
  have G1 := g0.trans (g1.mono (by omega))
  clear hr hb0 p0 g0 g1
  go_wp2_with fail
  refine (l6Block_any _ _ B a len' cap 0 R1 (by omega)).mono ?_
  rintro e u2 ⟨b, rfl, R2, A2⟩
  have s2 := A2.size
  have p2 := p1.at_ (A2.at_ (by omega) (by omega))
  have G2 := G1.trans (A2.old (show w.heap.size ≤ B by omega) (by omega))
  clear p1 G1 A2 R1 R2
  go_wp2_with (refine wpList_storeB rfl _ _ rfl rfl rfl p2 ?_)
  intro u3 L3
  go_wp2
  obtain ⟨r0, r1, r2, r3, r4, _⟩ := L3.cell
  refine bodyPost_ret (v := b.val) ?_ rfl ⟨b, rfl, G2.trans L3.below⟩
  simp [results, Try.results20, go_sem, r0, r1, r2, r3, r4, BlockD.val]

/-- Of the old blocks these two alone may have changed. -/
structure Off2 (B P : Nat) (w w' : World) : Prop where
  os : w'.os = w.os
  tape : w'.tape = w.tape
  output : w'.output = w.output
  size : w.heap.size ≤ w'.heap.size
  block : ∀ k, k < w.heap.size → k ≠ B → k ≠ P → w'.heap[k]? = w.heap[k]?
theorem Off2.refl (B P : Nat) (w : World) : Off2 B P w w := ⟨rfl, rfl, rfl, Nat.le_refl _, fun _ _ _ _ => rfl⟩
theorem Off2.trans {B P : Nat} {a b c : World} (h : Off2 B P a b) (k : Off2 B P b c) : Off2 B P a c :=
  ⟨k.os.trans h.os, k.tape.trans h.tape, k.output.trans h.output, Nat.le_trans h.size k.size, fun i h1 h2 h3 => (k.block i (Nat.lt_of_lt_of_le h1 h.size) h2 h3).trans (h.block i h1 h2 h3)⟩
theorem Off2.of {B P : Nat} {w w' : World} (h : Aside B w w') : Off2 B P w w' := ⟨h.os, h.tape, h.output, h.size, fun k h1 h2 _ => h.at_ h1 h2⟩
theorem Off2.laid {B P : Nat} {w w' : World} {b : BlockD} (h : Laid w w' P b) : Off2 B P w w' := ⟨h.below.os, h.below.tape, h.below.output, by rw [h.size]; exact Nat.le_refl _, fun k _ _ h3 => h.block k h3⟩

theorem RdQ.part {n0 B : Nat} {a : Option Addr} {len cap : Nat} {q : Int} {u u' : World} (h : RdQ n0 B a len cap q u) (hs : u.heap.size ≤ u'.heap.size) (hk : ∀ k, k < n0 ∨ k = B → u'.heap[k]? = u.heap[k]?) : RdQ n0 B a len cap q u' := by
  obtain ⟨p, hp, lo, hi, c0, c1, f1, by8, sh, p0, p1⟩ := h
  refine ⟨p, hp, lo, by omega, by rw [World.cell?_of_block (w := u) (hk B (.inr rfl))]; exact c0, by rw [World.cell?_of_block (w := u) (hk B (.inr rfl))]; exact c1, by rw [World.frozen?_of_block (w := u) (hk B (.inr rfl))]; exact f1, ?_, sh, p0, p1⟩
  rcases by8 with h0 | ⟨b, off, ha, hb', hc⟩
  · exact .inl h0
  · refine .inr ⟨b, off, ha, hb', fun i hi => ?_⟩
    rw [World.cell?_of_block (w := u) (hk b (.inl hb'))]
    exact hc i hi

/-- A list that was written out, in a block of its own. -/
def NewL (u : World) (lo : Nat) (zs : List Int) (v : Value) : Prop := ∃ g, v = .slice (some ⟨g, 0, none⟩) zs.length zs.length ∧ lo < g ∧ g < u.heap.size ∧ ∀ i, i < zs.length → u.cell? ⟨g, 0 + i, none⟩ = (zs[i]?).map (Value.int .i64)
theorem newL_cells (w : World) (zs : List Int) (t : TypeId) : ∀ i, i < zs.length → (w.alloc (.cells (zs.map (Value.int .i64)).toArray t)).cell? ⟨w.heap.size, 0 + i, none⟩ = (zs[i]?).map (Value.int .i64) :=
  fun i hi => by rw [Nat.zero_add, World.cell?_alloc_new]; simp
theorem NewL.off {u u' : World} {lo B P : Nat} {zs : List Int} {v : Value} (h : NewL u lo zs v) (hr : Off2 B P u u') (h1 : B ≤ lo) (h2 : P ≤ lo) : NewL u' lo zs v := by
  obtain ⟨g, e, g1, g2, hc⟩ := h
  exact ⟨g, e, g1, Nat.lt_of_lt_of_le g2 hr.size, fun i hi => by rw [World.cell?_of_block (w := u) (hr.block g g2 (by omega) (by omega))]; exact hc i hi⟩

/-- While a block, two inputs and a time are answered: the reader, and what is to be answered ahead of the store and behind it. -/
structure JB (n0 B : Nat) (a : Option Addr) (len cap : Nat) (q : Int) (P : Nat) (b : BlockD) (L : Array Bool) (u : World) : Prop where
  sz : L.size = 12
  rd : RdL n0 B a len cap q L u
  c0 : L.getD 8 true = false → CellB u P noB
  c1 : L.getD 8 true = true → CellB u P b
theorem JB.next {n0 B : Nat} {a : Option Addr} {len cap : Nat} {q : Int} {P : Nat} {b : BlockD} {L : Array Bool} {u u' : World} {i : Nat} (h : JB n0 B a len cap q P b L u) (hi : i ≠ 8) (hr : RdL n0 B a len cap q (L.setIfInBounds i true) u') (hk : u'.heap[P]? = u.heap[P]?) : JB n0 B a len cap q P b (L.setIfInBounds i true) u' := by
  have e : (L.setIfInBounds i true).getD 8 true = L.getD 8 true := by simp [hi]
  exact ⟨by rw [Array.size_setIfInBounds]; exact h.sz, hr, fun x => (h.c0 (by rw [← e]; exact x)).at_ hk, fun x => (h.c1 (by rw [← e]; exact x)).at_ hk⟩
theorem JB.same {n0 B : Nat} {a : Option Addr} {len cap : Nat} {q : Int} {P : Nat} {b : BlockD} {L : Array Bool} {u : World} {i : Nat} (h : JB n0 B a len cap q P b L u) (hi : i ≠ 8) (hL : L.getD i true = false) : JB n0 B a len cap q P b (L.setIfInBounds i true) u := h.next hi (h.rd.same hL) rfl

set_option maxHeartbeats 4000000 in
theorem drawBlockStep_any (w : World) (ad : Option Addr) (len cap : Nat) (hb : Bytes8 w w.heap.size ad len) (hlc : len ≤ cap) (hm : cap ≤ maxLen) :
    Calls Try.prog 12 #[.slice ad len cap] w fun e w' => ∃ (b : BlockD) (x y : Bool) (dt : Int), e = .returned (.tuple #[b.val, .bool x, .bool y, .int .i64 dt]) ∧ -1 ≤ dt ∧ dt ≤ 1001 ∧ Below w.heap.size w w' := by
  go_enter Try.func12, Try.ntmps12
  go_wp2_with (refine wpList_allocB rfl rfl ?_)
  intro u0 g0 p0 s0
  have hb0 : Bytes8 u0 w.heap.size ad len := by
    rcases hb with h0 | ⟨b, off, ha, hb', hc⟩
    · exact .inl h0
    · exact .inr ⟨b, off, ha, hb', fun i hi => by rw [g0.cell (p := ⟨b, off + i, none⟩) hb']; exact hc i hi⟩
  clear hb
  go_wp2_with fail
  refine (open_low w.heap.size u0 ad len cap (by omega) hb0 hlc hm).mono ?_
  rintro e u1 ⟨len', rfl, hr, g1⟩
  have s1 := g1.size
  obtain ⟨B, hB⟩ : ∃ B, u0.heap.size = B := ⟨_, rfl⟩
  rw [hB] at hr ⊢
  have R1 : RdQ w.heap.size B ad len' cap 0 u1 := ⟨0, by omega, hr⟩
  have hB1 := R1.hi
  have p1 := p0.below g1 (by omega)
  have G1 := g0.trans (g1.mono (by omega))
  clear hr hb0 p0 g0 g1
  go_wp2_with fail
  refine (l6Block_any _ _ B ad len' cap 0 R1 (by omega)).mono ?_
  rintro e u2 ⟨b, rfl, R2, A2⟩
  have s2 := A2.size
  have p2 := p1.at_ (A2.at_ (by omega) (by omega))
  have G2 := G1.trans (A2.old (show w.heap.size ≤ B by omega) (by omega))
  clear p1 G1 A2 R1
  go_wp2_with (refine wpList_allocB rfl rfl ?_)
  intro u3 g3 v3 s3
  go_wp2_with (refine wpList_storeB rfl _ _ rfl rfl rfl v3 ?_)
  intro u4 L4
  obtain ⟨V, hV⟩ : ∃ V, u2.heap.size = V := ⟨_, rfl⟩
  rw [hV] at v3 L4 s3 ⊢
  have s4 := L4.size
  have v4 := L4.cell
  have p4 := L4.other (p2.below g3 (by omega)) (by omega)
  have R4 : RdQ w.heap.size B ad len' cap (0 + 80) u4 := (R2.kept g3).block (by omega) fun k hk => L4.block k (by omega)
  have G4 := (G2.trans (g3.mono (by omega))).trans (L4.below.mono (by omega))
  clear R2 g3 v3 L4 p2 G2
  go_wp2_with fail
  refine (pickQ _ _ B ad len' cap _ 2 R4 (by omega) (by omega) (by omega)).mono ?_
  rintro e u5 ⟨r, rfl, hr0, hr1, R5, A5⟩
  have s5 := A5.size
  have v5 := v4.at_ (A5.at_ (by omega) (by omega))
  have p5 := p4.at_ (A5.at_ (by omega) (by omega))
  have G5 := G4.trans (A5.old (show w.heap.size ≤ B by omega) (by omega))
  clear v4 p4 R4 A5 G4 hr0 hr1
  obtain ⟨P, hP⟩ : ∃ P, w.heap.size = P := ⟨_, rfl⟩
  rw [hP] at p5 ⊢
  have hPB : P < B := by omega
  have hBV : B < V := by omega
  have hVu : V < u5.heap.size := by omega
  obtain ⟨x, hx⟩ : ∃ x : Bool, (r == 0) = x := ⟨_, rfl⟩
  have HG : Hid (Below w.heap.size w u5 ∧ w.heap.size = P) := ⟨G5, hP⟩
  rw [hP] at R5
  clear hP G5 s0 s1 s2 s3 s4 s5 hB hV hB1
  go_wp2_with fail
  clear hx
  refine wp_region_dagC (R := Off2 B P) (Φ := fun i v u => match i with
      | 0 => v = b.val
      | 1 => v = .bool x
      | 2 => v = .pointer (some ⟨B, 0, none⟩)
      | 3 => ∃ r : Int, v = .int .i64 r
      | 4 => ∃ y : Bool, v = .bool y
      | 5 => v = .pointer (some ⟨B, 0, none⟩)
      | 6 => NewL u B [1, 2, 0, 5, 1000, -1, 1001] v
      | 7 => ∃ t : Int, v = .int .i64 t ∧ -1 ≤ t ∧ t ≤ 1001
      | 8 => True
      | 9 => v = .bool x
      | 10 => ∃ y : Bool, v = .bool y
      | 11 => ∃ t : Int, v = .int .i64 t ∧ -1 ≤ t ∧ t ≤ 1001
      | _ => True)
    (J := fun L _ u => JB P B ad len' cap (0 + 80 + 1) P b L u) (by kernel_rfl) (by kernel_rfl) (by kernel_rfl) (Off2.refl _ _ _) (fun _ _ _ h k => h.trans k) ?_ ⟨rfl, RdL.start (R5.kept (Below.drew (Below.refl _ _))) _, fun _ => p5.at_ rfl, fun h => by simp at h⟩ ?_ ?_
  · intro i v u u' hr
    match i with
    | 0 | 1 | 2 | 3 | 4 | 5 | 7 | 8 | 9 | 10 | 11 | _ + 12 => exact fun h => h
    | 6 => exact fun h => NewL.off h hr (by omega) (by omega)
  · intro i o ho L ac u hf hR0 hLs hLi hcl hp he hJ K' hK
    have hR : Off2 B P u5 u := (Off2.of (aside_drew _ _)).trans hR0
    have hsz' : ac.tmps.size = 24 := hf.size
    have hus := hR.size
    have hul := unlisted_le L
    have hLz := hJ.sz
    rcases i with _ | _ | _ | _ | _ | _ | _ | _ | _ | _ | _ | _ | i
    · obtain rfl := Option.some.inj ho
      have q7 : ac.tmps.getD 7 undef = .pointer (some ⟨V, 0, none⟩) := hf.at_ 7 (by kernel_rfl)
      have cu := v5.at_ (hR.block V (by omega) (by omega) (by omega))
      clear hp he
      refine wanted_none rfl ?_
      refine wp_loadB (Operand.tmp 7) rfl q7 cu ?_
      exact hK _ _ (Off2.refl _ _ _) (getD_put_self ac 16 _ (by show _ < ac.tmps.size; omega)) (hJ.same (by decide) hLi)
    · obtain rfl := Option.some.inj ho
      have q8 : ac.tmps.getD 8 undef = .bool x := hf.at_ 8 (by kernel_rfl)
      clear hp he
      go_simp
      exact hK _ _ (Off2.refl _ _ _) (getD_put_self ac 17 _ (by show _ < ac.tmps.size; omega)) (hJ.same (by decide) hLi)
    · obtain rfl := Option.some.inj ho
      have q6 : ac.tmps.getD 6 undef = .pointer (some ⟨B, 0, none⟩) := hf.at_ 6 (by kernel_rfl)
      clear hp he
      go_simp
      exact hK _ _ (Off2.refl _ _ _) (getD_put_self ac 18 _ (by show _ < ac.tmps.size; omega)) (hJ.same (by decide) hLi)
    · obtain rfl := Option.some.inj ho
      have q18 : ac.tmps.getD 18 undef = .pointer (some ⟨B, 0, none⟩) := hp 2 _ rfl (he _ (Array.mem_of_getElem? (i := 0) rfl) (by kernel_rfl))
      clear hp he
      go_simp
      refine (pickQ P u B ad len' cap _ 5 hJ.rd (by omega) (by omega) (by omega)).mono ?_
      rintro e1 u' ⟨z, rfl, _, _, hrd, hA⟩
      exact hK _ _ (Off2.of hA) ⟨z, (getD_put_self ac 19 _ (by show _ < ac.tmps.size; omega))⟩ (hJ.next (by decide) (RdL.read hLi hrd) (hA.at_ (by omega) (by omega)))
    · obtain rfl := Option.some.inj ho
      obtain ⟨z, q19⟩ := hp 3 _ rfl (he _ (Array.mem_of_getElem? (i := 0) rfl) (by kernel_rfl))
      have q19 : ac.tmps.getD 19 undef = .int .i64 z := q19
      clear hp he
      go_simp
      exact hK _ _ (Off2.refl _ _ _) ⟨_, (getD_put_self ac 20 _ (by show _ < ac.tmps.size; omega))⟩ (hJ.same (by decide) hLi)
    · obtain rfl := Option.some.inj ho
      have q6 : ac.tmps.getD 6 undef = .pointer (some ⟨B, 0, none⟩) := hf.at_ 6 (by kernel_rfl)
      clear hp he
      go_simp
      exact hK _ _ (Off2.refl _ _ _) (getD_put_self ac 21 _ (by show _ < ac.tmps.size; omega)) (hJ.same (by decide) hLi)
    · obtain rfl := Option.some.inj ho
      clear hp he
      go_simp
      have hn := newL_cells u [1, 2, 0, 5, 1000, -1, 1001] 3
      exact hK _ _ (Off2.of (aside_alloc _ _ _)) ⟨u.heap.size, (getD_put_self ac 22 _ (by show _ < ac.tmps.size; omega)), by omega, by simp, hn⟩ (hJ.next (by decide) (hJ.rd.keep hLi ((Below.refl _ _).alloc (Nat.le_refl _) _)) (((Below.refl u.heap.size u).alloc (Nat.le_refl _) _).block P (by omega)))
    · obtain rfl := Option.some.inj ho
      have q21 : ac.tmps.getD 21 undef = .pointer (some ⟨B, 0, none⟩) := hp 5 _ rfl (he _ (Array.mem_of_getElem? (i := 0) rfl) (by kernel_rfl))
      obtain ⟨g, q22, hg1, hg2, hgc⟩ := hp 6 _ rfl (he _ (Array.mem_of_getElem? (i := 1) rfl) (by kernel_rfl))
      have q22 : ac.tmps.getD 22 undef = .slice (some ⟨g, 0, none⟩) 7 7 := q22
      have hz7 : ∀ i, i < 7 → ∃ z, ([1, 2, 0, 5, 1000, -1, 1001] : List Int)[i]? = some z ∧ u.cell? ⟨g, 0 + i, none⟩ = some (.int .i64 z) := fun i hi => ⟨([1, 2, 0, 5, 1000, -1, 1001] : List Int)[i]'hi, List.getElem?_eq_getElem hi, by rw [hgc i hi, List.getElem?_eq_getElem hi]; rfl⟩
      clear hp he
      go_simp
      refine (numQ P u B ad len' cap _ g 0 7 7 hJ.rd (by omega) (by omega) (by omega) (by omega) (fun i hi => by obtain ⟨z, _, hz⟩ := hz7 i hi; exact ⟨z, hz⟩)).mono ?_
      rintro e1 u' ⟨t, i, rfl, hi, hv, hrd, hA⟩
      obtain ⟨z, hz1, hz2⟩ := hz7 i hi
      rw [hz2] at hv
      obtain rfl : z = t := by simpa using hv
      have hmem : z ∈ ([1, 2, 0, 5, 1000, -1, 1001] : List Int) := List.mem_of_getElem? hz1
      simp at hmem
      exact hK _ _ (Off2.of hA) ⟨z, (getD_put_self ac 23 _ (by show _ < ac.tmps.size; omega)), by omega, by omega⟩ (hJ.next (by decide) (RdL.read hLi hrd) (hA.at_ (by omega) (by omega)))
    · obtain rfl := Option.some.inj ho
      have q2 : ac.tmps.getD 2 undef = .pointer (some ⟨P, 0, none⟩) := hf.at_ 2 (by kernel_rfl)
      have q16 : ac.tmps.getD 16 undef = b.val := hp 0 _ rfl (he _ (Array.mem_of_getElem? (i := 0) rfl) (by kernel_rfl))
      have cu := hJ.c0 hLi
      clear hp he
      refine wanted_none rfl ?_
      refine wp_storeB (Operand.tmp 2) (Operand.tmp 16) rfl q2 q16 cu ?_
      intro u1 L1
      have z1 := L1.size
      exact hK _ _ (Off2.laid L1) trivial ⟨by rw [Array.size_setIfInBounds]; exact hLz, RdL.read hLi ((RdQ.part hJ.rd (by omega) fun k hk => L1.block k (by omega)).mono (by omega)), fun h => absurd h (by rw [getD_set_self' (by rw [hLz]; decide)]; decide), fun _ => L1.cell⟩
    · obtain rfl := Option.some.inj ho
      have q17 : ac.tmps.getD 17 undef = .bool x := hp 1 _ rfl (he _ (Array.mem_of_getElem? (i := 0) rfl) (by kernel_rfl))
      clear hp he
      go_simp
      exact hK _ _ (Off2.refl _ _ _) (getD_put_self ac 3 _ (by show _ < ac.tmps.size; omega)) (hJ.same (by decide) hLi)
    · obtain rfl := Option.some.inj ho
      obtain ⟨y, q20⟩ := hp 4 _ rfl (he _ (Array.mem_of_getElem? (i := 0) rfl) (by kernel_rfl))
      have q20 : ac.tmps.getD 20 undef = .bool y := q20
      clear hp he
      go_simp
      exact hK _ _ (Off2.refl _ _ _) ⟨_, (getD_put_self ac 4 _ (by show _ < ac.tmps.size; omega))⟩ (hJ.same (by decide) hLi)
    · obtain rfl := Option.some.inj ho
      obtain ⟨t, q23, ht0, ht1⟩ := hp 7 _ rfl (he _ (Array.mem_of_getElem? (i := 0) rfl) (by kernel_rfl))
      have q23 : ac.tmps.getD 23 undef = .int .i64 t := q23
      clear hp he
      go_simp
      exact hK _ _ (Off2.refl _ _ _) ⟨_, (getD_put_self ac 5 _ (by show _ < ac.tmps.size; omega)), ht0, ht1⟩ (hJ.same (by decide) hLi)
    · exact absurd ho (by simp)
  · intro L ac u hf hR0 hp hJ
    have hR : Off2 B P u5 u := (Off2.of (aside_drew _ _)).trans hR0
    have m3 : ac.tmps.getD 3 undef = .bool x := (hp 9 _ rfl).2
    obtain ⟨y, m4⟩ := (hp 10 _ rfl).2
    have m4 : ac.tmps.getD 4 undef = .bool y := m4
    obtain ⟨t, m5, ht0, ht1⟩ := (hp 11 _ rfl).2
    have m5 : ac.tmps.getD 5 undef = .int .i64 t := m5
    have cP := hJ.c1 (hp 8 _ rfl).1
    have HB : Hid (Below w.heap.size w u) := HG.out.1.trans ⟨hR.os, hR.tape, hR.output, by have := hR.size; have := HG.out.1.size; omega, fun k hk => hR.block k (by have := HG.out.1.size; omega) (by have := HG.out.2; omega) (by have := HG.out.2; omega)⟩
    clear hp hJ hR0 hR HG R5
    obtain ⟨fq, ea, hfv⟩ := act_lit ac 24 hf.size
    have md : ac.defers = [] := hf.defers
    rw [md] at ea
    have m0 := hf.at_ 0 (by kernel_rfl)
    have m1 := hf.at_ 1 (by kernel_rfl)
    have m2 := hf.at_ 2 (by kernel_rfl)
    have m6 := hf.at_ 6 (by kernel_rfl)
    have m7 := hf.at_ 7 (by kernel_rfl)
    have m8 := hf.at_ 8 (by kernel_rfl)
    have m9 := hf.at_ 9 (by kernel_rfl)
    have m10 := hf.at_ 10 (by kernel_rfl)
    have m11 := hf.at_ 11 (by kernel_rfl)
    have m12 := hf.at_ 12 (by kernel_rfl)
    have m13 := hf.at_ 13 (by kernel_rfl)
    have m14 := hf.at_ 14 (by kernel_rfl)
    have m15 := hf.at_ 15 (by kernel_rfl)
    rw [← hfv] at m0 m1 m2 m6 m7 m8 m9 m10 m11 m12 m13 m14 m15 m3 m4 m5
    simp only [Array.getD_eq_getD_getElem?, List.getElem?_toArray, List.getElem?_cons_succ, List.getElem?_cons_zero, Option.getD_some] at m0 m1 m2 m6 m7 m8 m9 m10 m11 m12 m13 m14 m15
    simp only [List.range, List.range.loop, List.map_cons, List.map_nil, m0, m1, m2, m6, m7, m8, m9, m10, m11, m12, m13, m14, m15, m3, m4, m5] at ea
    subst ea
    clear m0 m1 m2 m6 m7 m8 m9 m10 m11 m12 m13 m14 m15 m3 m4 m5 hfv md hf
    go_wp2
    obtain ⟨r0, r1, r2, r3, r4, _⟩ := cP
    refine bodyPost_ret (v := .tuple #[b.val, .bool x, .bool y, .int .i64 t]) ?_ rfl ⟨b, x, y, t, rfl, ht0, ht1, HB.out⟩
    simp [results, Try.results12, go_sem, r0, r1, r2, r3, r4, BlockD.val]
end Go.Proofs.Ytgfoimleoekkiaa
