/-
  A block is drawn: l6Block. (Written by our generator gen_drawblock.py.)
-/
import Derived.Test.YtgfoimleoekkiaaDrawBlockA
namespace Go.Proofs.Ytgfoimleoekkiaa
open Go.ChangeShapes Go.WideShapes Go.ChangeAt Go.RowKit
set_option linter.unusedVariables false
set_option linter.unusedSimpArgs false
set_option maxRecDepth 100000

/-- A block that is being drawn, at V; the one that is to be answered, as it was made. -/
structure BlkI (n0 B : Nat) (ad : Option Addr) (len cap : Nat) (q : Int) (w : World) (V : Nat) (b : BlockD) (wr : World) : Prop where
  cell : CellB wr V b
  res : CellB wr w.heap.size noB
  rd : RdQ n0 B ad len cap q wr
  as_ : Aside B w wr
  lo : w.heap.size < V
  lt : V < wr.heap.size

theorem BlkI.aside {n0 B : Nat} {ad : Option Addr} {len cap : Nat} {q q' : Int} {w : World} {V : Nat} {b : BlockD} {wr u : World} (h : BlkI n0 B ad len cap q w V b wr) (hB : B < w.heap.size) (hA : Aside B wr u) (hr : RdQ n0 B ad len cap q' u) : BlkI n0 B ad len cap q' w V b u := by
  have h1 := h.lo
  have h2 := h.lt
  have h3 := hA.size
  exact ⟨h.cell.at_ (hA.at_ h2 (by omega)), h.res.at_ (hA.at_ (by omega) (by omega)), hr, h.as_.trans hA, h1, by omega⟩
theorem BlkI.laid {n0 B : Nat} {ad : Option Addr} {len cap : Nat} {q : Int} {w : World} {V : Nat} {b c : BlockD} {wr u : World} (h : BlkI n0 B ad len cap q w V b wr) (hB : B < w.heap.size) (hL : Laid wr u V c) : BlkI n0 B ad len cap q w V c u := by
  have h1 := h.lo
  have h2 := h.lt
  have h3 := hL.size
  refine ⟨hL.cell, h.res.at_ (hL.block _ (by omega)), h.rd.block (by omega) fun k hk => hL.block k (by omega), ⟨hL.below.os.trans h.as_.os, hL.below.tape.trans h.as_.tape, hL.below.output.trans h.as_.output, by have := h.as_.size; omega, fun k hk hne => by rw [hL.block k (by omega)]; exact h.as_.block k hk hne⟩, h1, by omega⟩
theorem BlkI.mono {n0 B : Nat} {ad : Option Addr} {len cap : Nat} {q q' : Int} {w : World} {V : Nat} {b : BlockD} {wr : World} (h : BlkI n0 B ad len cap q w V b wr) (hq : q ≤ q') : BlkI n0 B ad len cap q' w V b wr := ⟨h.cell, h.res, h.rd.mono hq, h.as_, h.lo, h.lt⟩

theorem Laid.named {w u : World} {B : Nat} {b : BlockD} (h : Laid w u B b) : ∃ d, d = b ∧ Laid w u B d := ⟨b, rfl, h⟩

/-- The last store: what is answered. -/
theorem BlkI.end_ {n0 B : Nat} {ad : Option Addr} {len cap : Nat} {q : Int} {w : World} {V : Nat} {b : BlockD} {wr u : World} (h : BlkI n0 B ad len cap q w V b wr) (hB : B < w.heap.size) (hL : Laid wr u w.heap.size b) : RdQ n0 B ad len cap q u ∧ Aside B w u := by
  have h3 := hL.size
  exact ⟨h.rd.block (by omega) fun k hk => hL.block k (by omega), ⟨hL.below.os.trans h.as_.os, hL.below.tape.trans h.as_.tape, hL.below.output.trans h.as_.output, by have := h.as_.size; omega, fun k hk hne => by rw [hL.block k (by omega)]; exact h.as_.block k hk hne⟩⟩

set_option maxHeartbeats 8000000 in
theorem l6Block_any (n0 : Nat) (w : World) (B : Nat) (ad : Option Addr) (len cap : Nat) (q : Int) (h : RdQ n0 B ad len cap q w) (hq : q + 100 < 1000000) :
    Calls Try.prog 24 #[.pointer (some ⟨B, 0, none⟩)] w fun e w' => ∃ b : BlockD, e = .returned b.val ∧ RdQ n0 B ad len cap (q + 80) w' ∧ Aside B w w' := by
  have hB := h.hi
  go_enter Try.func24, Try.ntmps24
  go_wp2_with (refine wpList_allocB rfl rfl ?_)
  intro u0 g0 p0 s0
  have R0 := h.kept g0
  have A0 : Aside B w u0 := aside_of g0
  clear g0 h
  go_wp2_with fail
  refine (l6Kind_any n0 _ B ad len cap q R0 (by omega)).mono ?_
  rintro e u1 ⟨k, n, rfl, hkn, hn0, hn1, R1, A1⟩
  have s1 := A1.size
  have p1 := p0.at_ (A1.at_ (by omega) (by omega))
  have A1 := A0.trans A1
  clear R0 A0 p0
  go_wp2_with fail
  refine (sBlockNew_any _ k n).mono ?_
  rintro e u2 ⟨rfl, g2⟩
  have s2 := g2.size
  go_wp2_with (refine wpList_allocB rfl rfl ?_)
  intro u3 g3 v3 s3
  go_wp2_with (refine wpList_storeB rfl _ _ rfl rfl rfl v3 ?_)
  intro u4 L4
  have hok := blockNew_ok hkn
  obtain ⟨b, hb⟩ : ∃ b, blockNew k n = b := ⟨_, rfl⟩
  rw [hb] at L4 hok
  obtain ⟨V, hV⟩ : ∃ V, u2.heap.size = V := ⟨_, rfl⟩
  rw [hV] at v3 L4 s3 ⊢
  have hI : BlkI n0 B ad len cap (q + 2) w V b u4 := by
    have r3 : BlkI n0 B ad len cap (q + 2) w V noB u3 := ⟨v3, (p1.below g2 (by omega)).below g3 (by omega), (R1.kept g2).kept g3, (A1.trans (aside_of g2)).trans (aside_of g3), by omega, by omega⟩
    exact r3.laid hB L4
  clear p1 A1 R1 g2 g3 v3 L4 hb hkn hn0 hn1
  go_wp2_with fail
  refine (pickQ n0 _ B ad len cap _ 6 hI.rd (by omega) (by omega) (by omega)).mono ?_
  rintro e u5 ⟨r, rfl, hr0, hr1, R5, A5⟩
  have hI5 := hI.aside hB A5 R5
  clear hI R5 A5
  obtain ⟨m0, rfl⟩ : ∃ m : Nat, r = m := ⟨r.toNat, by omega⟩
  have HI : Hid (blockOk b = true ∧ BlkI n0 B ad len cap (q + 3 + 11 * (5 - (m0 : Int))) w V b u5) := ⟨hok, hI5.mono (by omega)⟩
  clear hI5 hok hV s0 s1 s2 s3 hr0
  go_wp2_with fail
  go_loopw [6] (fun i wr => ∃ (m : Nat) (b : BlockD), i = .int .i64 m ∧ m ≤ 5 ∧ Hid (blockOk b = true ∧ BlkI n0 B ad len cap (q + 3 + 11 * (5 - (m : Int))) w V b wr)) (fun i _ => (intOf i).toNat)
  case atStart => exact ⟨m0, b, rfl, by omega, HI⟩
  case round =>
    clear HI hr1
    obtain ⟨m, c, rfl, hm5, HR⟩ := hrel
    by_cases hlt : 0 < m
    · have hlt' : (0 : Int) < (m : Int) := by omega
      go_wp2_with fail
      obtain ⟨hco, hIr⟩ := HR.out
      have hl := hIr.lo
      have ht := hIr.lt
      refine wp_region_last (R := Aside B) (Φ := fun i v u => match i with
          | 0 => v = c.val
          | 1 => v = .pointer (some ⟨B, 0, none⟩)
          | 2 => ∃ r : Int, v = .int .i64 r
          | 3 => ∃ x : Bool, v = .bool x
          | 4 => v = .pointer (some ⟨B, 0, none⟩)
          | 5 => ∃ r : Int, v = .int .i64 r
          | 6 => ∃ x : Bool, v = .bool x
          | 7 => v = .pointer (some ⟨B, 0, none⟩)
          | 8 => ∃ t : Int, v = .int .i64 t ∧ 0 ≤ t ∧ t ≤ 1000
          | 9 => ∃ d : BlockD, v = d.val ∧ blockOk d = true
          | _ => True)
        (J := fun L a u => L.size = 11 ∧ RdL n0 B ad len cap (q + 3 + 11 * (5 - (m : Int))) L u) 10 _ rfl rfl (by kernel_rfl) (by kernel_rfl) (by kernel_rfl) (by kernel_rfl) (Aside.refl _ _) (aside_trans B) ?_ ⟨rfl, RdL.start (hIr.rd.kept (Below.drew (Below.refl _ _))) _⟩ ?_ ?_
      · intro i v u u' hr
        match i with
        | 0 | 1 | 4 | 7 | _ + 10 => exact fun h => h
        | 2 => exact fun h => h
        | 3 => exact fun h => h
        | 5 => exact fun h => h
        | 6 => exact fun h => h
        | 8 => exact fun h => h
        | 9 => exact fun h => h
      · intro i o ho hin L ac u hf hR0 hLs hLi hp he hJ K' hK
        have hR : Aside B wr u := (aside_drew _ _).trans hR0
        have hsz' : ac.tmps.size = 58 := hf.size
        have hus := hR.size
        obtain ⟨hLz, hJ⟩ := hJ
        have hul := unlisted_le L
        rcases i with _ | _ | _ | _ | _ | _ | _ | _ | _ | _ | i
        · obtain rfl := Option.some.inj ho
          have q5 : ac.tmps.getD 5 undef = .pointer (some ⟨V, 0, none⟩) := hf.at_ 5 (by kernel_rfl)
          have cu := hIr.cell.at_ (hR.at_ (by omega) (by omega))
          clear hp he
          refine wanted_none rfl ?_
          refine wp_loadB (Operand.tmp 5) rfl q5 cu ?_
          exact hK _ _ (Aside.refl _ _) (getD_put_self ac 21 _ (by show _ < ac.tmps.size; omega)) ⟨by rw [Array.size_setIfInBounds]; exact hLz, hJ.same hLi⟩
        · obtain rfl := Option.some.inj ho
          have q0 : ac.tmps.getD 0 undef = .pointer (some ⟨B, 0, none⟩) := hf.at_ 0 (by kernel_rfl)
          clear hp he
          go_simp
          exact hK _ _ (Aside.refl _ _) (getD_put_self ac 22 _ (by show _ < ac.tmps.size; omega)) ⟨by rw [Array.size_setIfInBounds]; exact hLz, hJ.same hLi⟩
        · obtain rfl := Option.some.inj ho
          have q22 : ac.tmps.getD 22 undef = .pointer (some ⟨B, 0, none⟩) := hp 1 _ rfl (he _ (Array.mem_of_getElem? (i := 0) rfl) (by kernel_rfl))
          clear hp he
          go_simp
          refine (pickQ n0 u B ad len cap _ 3 hJ (by omega) (by omega) (by omega)).mono ?_
          rintro e1 u' ⟨x, rfl, _, _, hrd, hA⟩
          exact hK _ _ hA ⟨x, getD_put_self ac 23 _ (by show _ < ac.tmps.size; omega)⟩ ⟨by rw [Array.size_setIfInBounds]; exact hLz, RdL.read hLi hrd⟩
        · obtain rfl := Option.some.inj ho
          obtain ⟨r, q23⟩ := hp 2 _ rfl (he _ (Array.mem_of_getElem? (i := 0) rfl) (by kernel_rfl))
          have q23 : ac.tmps.getD 23 undef = .int .i64 r := q23
          clear hp he
          go_simp
          exact hK _ _ (Aside.refl _ _) ⟨_, getD_put_self ac 24 _ (by show _ < ac.tmps.size; omega)⟩ ⟨by rw [Array.size_setIfInBounds]; exact hLz, hJ.same hLi⟩
        · obtain rfl := Option.some.inj ho
          have q0 : ac.tmps.getD 0 undef = .pointer (some ⟨B, 0, none⟩) := hf.at_ 0 (by kernel_rfl)
          clear hp he
          go_simp
          exact hK _ _ (Aside.refl _ _) (getD_put_self ac 25 _ (by show _ < ac.tmps.size; omega)) ⟨by rw [Array.size_setIfInBounds]; exact hLz, hJ.same hLi⟩
        · obtain rfl := Option.some.inj ho
          have q25 : ac.tmps.getD 25 undef = .pointer (some ⟨B, 0, none⟩) := hp 4 _ rfl (he _ (Array.mem_of_getElem? (i := 0) rfl) (by kernel_rfl))
          clear hp he
          go_simp
          refine (pickQ n0 u B ad len cap _ 6 hJ (by omega) (by omega) (by omega)).mono ?_
          rintro e1 u' ⟨x, rfl, _, _, hrd, hA⟩
          exact hK _ _ hA ⟨x, getD_put_self ac 26 _ (by show _ < ac.tmps.size; omega)⟩ ⟨by rw [Array.size_setIfInBounds]; exact hLz, RdL.read hLi hrd⟩
        · obtain rfl := Option.some.inj ho
          obtain ⟨r, q26⟩ := hp 5 _ rfl (he _ (Array.mem_of_getElem? (i := 0) rfl) (by kernel_rfl))
          have q26 : ac.tmps.getD 26 undef = .int .i64 r := q26
          clear hp he
          go_simp
          exact hK _ _ (Aside.refl _ _) ⟨_, getD_put_self ac 27 _ (by show _ < ac.tmps.size; omega)⟩ ⟨by rw [Array.size_setIfInBounds]; exact hLz, hJ.same hLi⟩
        · obtain rfl := Option.some.inj ho
          have q0 : ac.tmps.getD 0 undef = .pointer (some ⟨B, 0, none⟩) := hf.at_ 0 (by kernel_rfl)
          clear hp he
          go_simp
          exact hK _ _ (Aside.refl _ _) (getD_put_self ac 28 _ (by show _ < ac.tmps.size; omega)) ⟨by rw [Array.size_setIfInBounds]; exact hLz, hJ.same hLi⟩
        · obtain rfl := Option.some.inj ho
          have q28 : ac.tmps.getD 28 undef = .pointer (some ⟨B, 0, none⟩) := hp 7 _ rfl (he _ (Array.mem_of_getElem? (i := 0) rfl) (by kernel_rfl))
          clear hp he
          go_simp
          refine (l6Dt_any n0 u B ad len cap _ hJ (by omega)).mono ?_
          rintro e1 u' ⟨x, rfl, h0, h1, hrd, hA⟩
          exact hK _ _ hA ⟨x, getD_put_self ac 29 _ (by show _ < ac.tmps.size; omega), h0, h1⟩ ⟨by rw [Array.size_setIfInBounds]; exact hLz, RdL.read hLi hrd⟩
        · obtain rfl := Option.some.inj ho
          have q21 : ac.tmps.getD 21 undef = c.val := hp 0 _ rfl (he _ (Array.mem_of_getElem? (i := 0) rfl) (by kernel_rfl))
          obtain ⟨x, q24⟩ := hp 3 _ rfl (he _ (Array.mem_of_getElem? (i := 1) rfl) (by kernel_rfl))
          have q24 : ac.tmps.getD 24 undef = .bool x := q24
          obtain ⟨y, q27⟩ := hp 6 _ rfl (he _ (Array.mem_of_getElem? (i := 2) rfl) (by kernel_rfl))
          have q27 : ac.tmps.getD 27 undef = .bool y := q27
          obtain ⟨t, q29, ht0, ht1⟩ := hp 8 _ rfl (he _ (Array.mem_of_getElem? (i := 3) rfl) (by kernel_rfl))
          have q29 : ac.tmps.getD 29 undef = .int .i64 t := q29
          clear hp he
          go_simp
          refine (l6Step_any u c x y t hco ht0 ht1).mono ?_
          rintro e1 u' ⟨rfl, hbu⟩
          exact hK _ _ (aside_of hbu) ⟨_, getD_put_self ac 30 _ (by show _ < ac.tmps.size; omega), stepB_ok hco x y ht0⟩ ⟨by rw [Array.size_setIfInBounds]; exact hLz, hJ.keep hLi hbu⟩
        · omega
      · intro L ac u hf hR0 hp hJ K' hK
        have hR : Aside B wr u := (aside_drew _ _).trans hR0
        have hus := hR.size
        obtain ⟨hLz, hJ⟩ := hJ
        obtain ⟨d, m30, hdo⟩ := (hp 9 _ (by decide) rfl).2
        have m30 : ac.tmps.getD 30 undef = d.val := m30
        have hJ2 : RdQ n0 B ad len cap (q + 3 + 11 * (5 - (m : Int)) + 11) u := by have := RdL.most hJ; rw [hLz] at this; exact this
        have hI2 := hIr.aside hB hR hJ2
        clear hp hJ hR0 hR
        obtain ⟨fq, ea, hfv⟩ := act_lit ac 58 hf.size
        have md : ac.defers = [] := hf.defers
        rw [md] at ea
        have m0 := hf.at_ 0 (by kernel_rfl)
        have m1 := hf.at_ 1 (by kernel_rfl)
        have m2 := hf.at_ 2 (by kernel_rfl)
        have m3 := hf.at_ 3 (by kernel_rfl)
        have m4 := hf.at_ 4 (by kernel_rfl)
        have m5 := hf.at_ 5 (by kernel_rfl)
        have m6 := hf.at_ 6 (by kernel_rfl)
        have m7 := hf.at_ 7 (by kernel_rfl)
        have m8 := hf.at_ 8 (by kernel_rfl)
        have m9 := hf.at_ 9 (by kernel_rfl)
        have m10 := hf.at_ 10 (by kernel_rfl)
        have m11 := hf.at_ 11 (by kernel_rfl)
        have m12 := hf.at_ 12 (by kernel_rfl)
        have m13 := hf.at_ 13 (by kernel_rfl)
        have m14 := hf.at_ 14 (by kernel_rfl)
        have m15 := hf.at_ 15 (by kernel_rfl)
        have m16 := hf.at_ 16 (by kernel_rfl)
        have m17 := hf.at_ 17 (by kernel_rfl)
        have m18 := hf.at_ 18 (by kernel_rfl)
        have m19 := hf.at_ 19 (by kernel_rfl)
        have m20 := hf.at_ 20 (by kernel_rfl)
        have m31 := hf.at_ 31 (by kernel_rfl)
        have m32 := hf.at_ 32 (by kernel_rfl)
        have m33 := hf.at_ 33 (by kernel_rfl)
        have m34 := hf.at_ 34 (by kernel_rfl)
        have m35 := hf.at_ 35 (by kernel_rfl)
        have m36 := hf.at_ 36 (by kernel_rfl)
        have m37 := hf.at_ 37 (by kernel_rfl)
        have m38 := hf.at_ 38 (by kernel_rfl)
        have m39 := hf.at_ 39 (by kernel_rfl)
        have m40 := hf.at_ 40 (by kernel_rfl)
        have m41 := hf.at_ 41 (by kernel_rfl)
        have m42 := hf.at_ 42 (by kernel_rfl)
        have m43 := hf.at_ 43 (by kernel_rfl)
        have m44 := hf.at_ 44 (by kernel_rfl)
        have m45 := hf.at_ 45 (by kernel_rfl)
        have m46 := hf.at_ 46 (by kernel_rfl)
        have m47 := hf.at_ 47 (by kernel_rfl)
        have m48 := hf.at_ 48 (by kernel_rfl)
        have m49 := hf.at_ 49 (by kernel_rfl)
        have m50 := hf.at_ 50 (by kernel_rfl)
        have m51 := hf.at_ 51 (by kernel_rfl)
        have m52 := hf.at_ 52 (by kernel_rfl)
        have m53 := hf.at_ 53 (by kernel_rfl)
        have m54 := hf.at_ 54 (by kernel_rfl)
        have m55 := hf.at_ 55 (by kernel_rfl)
        have m56 := hf.at_ 56 (by kernel_rfl)
        have m57 := hf.at_ 57 (by kernel_rfl)
        rw [← hfv] at m0 m1 m2 m3 m4 m5 m6 m7 m8 m9 m10 m11 m12 m13 m14 m15 m16 m17 m18 m19 m20 m31 m32 m33 m34 m35 m36 m37 m38 m39 m40 m41 m42 m43 m44 m45 m46 m47 m48 m49 m50 m51 m52 m53 m54 m55 m56 m57 m30
        simp only [Array.getD_eq_getD_getElem?, List.getElem?_toArray, List.getElem?_cons_succ, List.getElem?_cons_zero, Option.getD_some] at m0 m1 m2 m3 m4 m5 m6 m7 m8 m9 m10 m11 m12 m13 m14 m15 m16 m17 m18 m19 m20 m31 m32 m33 m34 m35 m36 m37 m38 m39 m40 m41 m42 m43 m44 m45 m46 m47 m48 m49 m50 m51 m52 m53 m54 m55 m56 m57
        simp only [List.range, List.range.loop, List.map_cons, List.map_nil, m0, m1, m2, m3, m4, m5, m6, m7, m8, m9, m10, m11, m12, m13, m14, m15, m16, m17, m18, m19, m20, m31, m32, m33, m34, m35, m36, m37, m38, m39, m40, m41, m42, m43, m44, m45, m46, m47, m48, m49, m50, m51, m52, m53, m54, m55, m56, m57, m30] at ea
        subst ea
        clear m0 m1 m2 m3 m4 m5 m6 m7 m8 m9 m10 m11 m12 m13 m14 m15 m16 m17 m18 m19 m20 m31 m32 m33 m34 m35 m36 m37 m38 m39 m40 m41 m42 m43 m44 m45 m46 m47 m48 m49 m50 m51 m52 m53 m54 m55 m56 m57 m30 hfv md hf
        have cu := hI2.cell
        refine wanted_none rfl ?_
        refine wp_storeB (Operand.tmp 5) (Operand.tmp 30) rfl rfl rfl cu ?_
        intro u1 L1
        have hI3 := hI2.laid hB L1
        clear cu L1 hI2
        refine hK _ _ ?_
        clear hK
        have HN : Hid (blockOk d = true ∧ BlkI n0 B ad len cap (q + 3 + 11 * (5 - ((m - 1 : Nat) : Int))) w V d u1) := ⟨hdo, hI3.mono (by omega)⟩
        clear hI3 hdo hIr hco
        go_wp2
        go_roundw
        case rel => exact ⟨m - 1, d, by go_num, by omega, HN⟩
        case measure => simp [intOf]; omega
    · obtain rfl : m = 0 := by omega
      obtain ⟨hco, hIr⟩ := HR.out
      have hl := hIr.lo
      have ht := hIr.lt
      clear HR hco
      go_wp2_with fail
      refine (pickQ n0 _ B ad len cap _ 40 hIr.rd (by omega) (by omega) (by omega)).mono ?_
      rintro e v1 ⟨r, rfl, hr0, hr1, R1, A1⟩
      have hI1 := (hIr.aside hB A1 R1).mono (show _ ≤ q + 60 by omega)
      clear hIr R1 A1
      have hl1 := hI1.lt
      have fin : ∀ (d : BlockD) (wz : World), BlkI n0 B ad len cap (q + 61) w V d wz → ∀ u6, Laid wz u6 w.heap.size d → RdQ n0 B ad len cap (q + 80) u6 ∧ Aside B w u6 := fun d wz hz u6 L6 => ⟨(hz.end_ hB L6).1.mono (by omega), (hz.end_ hB L6).2⟩
      by_cases e0 : r = 0
      · subst e0
        go_wp2_with fail
        refine (numQ n0 _ B ad len cap (q + 60) v1.heap.size 0 3 3 (hI1.rd.kept ((Below.refl _ _).alloc (Nat.le_refl _) _)) (by omega) (by omega) (by omega) (by omega) (by exact ints_new _ _ _ _ rfl rfl)).mono ?_
        rintro e v2 ⟨z, i, rfl, hi, hv, R2, A2⟩
        have hI2 := (hI1.aside hB (aside_alloc _ _ _) (hI1.rd.kept ((Below.refl _ _).alloc (Nat.le_refl _) _))).aside hB A2 R2
        clear hI1 hv R2 A2
        go_wp2_with (refine wpList_storeK rfl _ _ rfl rfl rfl hI2.cell ?_)
        intro v3 L3
        have hI3 := (hI2.laid hB L3).mono (show _ ≤ q + 61 by omega)
        clear hI2 L3
        go_wp2_with (first | refine wpList_loadB rfl _ rfl rfl hI3.cell ?_ | refine wpList_storeB rfl _ _ rfl rfl rfl hI3.res ?_)
        intro u6 L6
        have HE : Hid _ := fin _ _ hI3 _ L6
        go_wp2
        obtain ⟨dz, _, L7⟩ := L6.named
        obtain ⟨r0, r1, r2, r3, r4, _⟩ := L7.cell
        refine bodyPost_ret (v := dz.val) ?_ rfl ⟨dz, rfl, HE.out.1, HE.out.2⟩
        simp [results, Try.results24, go_sem, r0, r1, r2, r3, r4, BlockD.val]
      have f0 : (r == 0) = false := by simpa using e0
      by_cases e1 : r = 1
      · subst e1
        go_wp2_with fail
        refine (numQ n0 _ B ad len cap (q + 60) v1.heap.size 0 3 3 (hI1.rd.kept ((Below.refl _ _).alloc (Nat.le_refl _) _)) (by omega) (by omega) (by omega) (by omega) (by exact ints_new _ _ _ _ rfl rfl)).mono ?_
        rintro e v2 ⟨z, i, rfl, hi, hv, R2, A2⟩
        have hI2 := (hI1.aside hB (aside_alloc _ _ _) (hI1.rd.kept ((Below.refl _ _).alloc (Nat.le_refl _) _))).aside hB A2 R2
        clear hI1 hv R2 A2
        go_wp2_with (refine wpList_storeN rfl _ _ rfl rfl rfl hI2.cell ?_)
        intro v3 L3
        have hI3 := (hI2.laid hB L3).mono (show _ ≤ q + 61 by omega)
        clear hI2 L3
        go_wp2_with (first | refine wpList_loadB rfl _ rfl rfl hI3.cell ?_ | refine wpList_storeB rfl _ _ rfl rfl rfl hI3.res ?_)
        intro u6 L6
        have HE : Hid _ := fin _ _ hI3 _ L6
        go_wp2
        obtain ⟨dz, _, L7⟩ := L6.named
        obtain ⟨r0, r1, r2, r3, r4, _⟩ := L7.cell
        refine bodyPost_ret (v := dz.val) ?_ rfl ⟨dz, rfl, HE.out.1, HE.out.2⟩
        simp [results, Try.results24, go_sem, r0, r1, r2, r3, r4, BlockD.val]
      have f1 : (r == 1) = false := by simpa using e1
      by_cases e2 : r = 2
      · subst e2
        go_wp2_with fail
        refine (numQ n0 _ B ad len cap (q + 60) v1.heap.size 0 3 3 (hI1.rd.kept ((Below.refl _ _).alloc (Nat.le_refl _) _)) (by omega) (by omega) (by omega) (by omega) (by exact ints_new _ _ _ _ rfl rfl)).mono ?_
        rintro e v2 ⟨z, i, rfl, hi, hv, R2, A2⟩
        have hI2 := (hI1.aside hB (aside_alloc _ _ _) (hI1.rd.kept ((Below.refl _ _).alloc (Nat.le_refl _) _))).aside hB A2 R2
        clear hI1 hv R2 A2
        go_wp2_with (refine wpList_storeT rfl _ _ rfl rfl rfl hI2.cell ?_)
        intro v3 L3
        have hI3 := (hI2.laid hB L3).mono (show _ ≤ q + 61 by omega)
        clear hI2 L3
        go_wp2_with (first | refine wpList_loadB rfl _ rfl rfl hI3.cell ?_ | refine wpList_storeB rfl _ _ rfl rfl rfl hI3.res ?_)
        intro u6 L6
        have HE : Hid _ := fin _ _ hI3 _ L6
        go_wp2
        obtain ⟨dz, _, L7⟩ := L6.named
        obtain ⟨r0, r1, r2, r3, r4, _⟩ := L7.cell
        refine bodyPost_ret (v := dz.val) ?_ rfl ⟨dz, rfl, HE.out.1, HE.out.2⟩
        simp [results, Try.results24, go_sem, r0, r1, r2, r3, r4, BlockD.val]
      have f2 : (r == 2) = false := by simpa using e2
      by_cases e3 : r = 3
      · subst e3
        have c2 := hI1.cell.c2
        go_wp2_with (refine wpList_storeOn rfl _ _ rfl rfl rfl hI1.cell ?_)
        intro v3 L3
        have hI3 := (hI1.laid hB L3).mono (show _ ≤ q + 61 by omega)
        clear hI1 L3 c2
        go_wp2_with (first | refine wpList_loadB rfl _ rfl rfl hI3.cell ?_ | refine wpList_storeB rfl _ _ rfl rfl rfl hI3.res ?_)
        intro u6 L6
        have HE : Hid _ := fin _ _ hI3 _ L6
        go_wp2
        obtain ⟨dz, _, L7⟩ := L6.named
        obtain ⟨r0, r1, r2, r3, r4, _⟩ := L7.cell
        refine bodyPost_ret (v := dz.val) ?_ rfl ⟨dz, rfl, HE.out.1, HE.out.2⟩
        simp [results, Try.results24, go_sem, r0, r1, r2, r3, r4, BlockD.val]
      have f3 : (r == 3) = false := by simpa using e3
      have hI3 := hI1.mono (show _ ≤ q + 61 by omega)
      clear hI1 e0 e1 e2 e3
      go_wp2_with (first | refine wpList_loadB rfl _ rfl rfl hI3.cell ?_ | refine wpList_storeB rfl _ _ rfl rfl rfl hI3.res ?_)
      intro u6 L6
      have HE : Hid _ := fin _ _ hI3 _ L6
      go_wp2
      obtain ⟨dz, _, L7⟩ := L6.named
      obtain ⟨r0, r1, r2, r3, r4, _⟩ := L7.cell
      refine bodyPost_ret (v := dz.val) ?_ rfl ⟨dz, rfl, HE.out.1, HE.out.2⟩
      simp [results, Try.results24, go_sem, r0, r1, r2, r3, r4, BlockD.val]
end Go.Proofs.Ytgfoimleoekkiaa
