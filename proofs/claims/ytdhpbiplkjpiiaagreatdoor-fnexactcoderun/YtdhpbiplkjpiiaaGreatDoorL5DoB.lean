/-
  The model's l5Do (package spec): what an instruction does that holds one more number (push, load, two, not), and a store. (Written by our generator gen_l5do.py.)
-/
import Derived.Test.YtdhpbiplkjpiiaaGreatDoorL5DoA
import Derived.Test.YtdhpbiplkjpiiaaGreatDoorGenKit
import Derived.Test.YtdhpbiplkjpiiaaGreatDoorDag2
import Derived.Test.YtdhpbiplkjpiiaaGreatDoorTwoKit
import Derived.Test.YtdhpbiplkjpiiaaGreatDoorMemPut
import Derived.Test.YtdhpbiplkjpiiaaGreatDoorQC4
import Derived.Test.YtdhpbiplkjpiiaaGreatDoorMemSpec
namespace Go.Proofs.YtdhpbiplkjpiiaaGreatDoor
open Go.ChangeShapes Go.WideShapes Go.ChangeAt Go.RowKit
set_option linter.unusedVariables false
set_option linter.unusedSimpArgs false
set_option maxRecDepth 100000

/-- What is known while an instruction is done: iB, iA, iS, iT: the operations that make the new number's slice, append it, store the memory, and tell what is held; sB, sA: their slots. -/
structure DoJ (w : World) (base PM : Nat) (ms is zs : List Value) (vh : Value) (st xs : List Int) (z : Int) (iB sB iA sA iS iT : Nat) (L : Array Bool) (a : Act) (u : World) : Prop where
  pm : VarG u PM ms
  pi : VarG u (PM + 1) is
  pr : VarG u (PM + 2) (if L.getD iS true = true then ms else zs)
  low : Below base w u
  size : PM + 2 < u.heap.size
  one : L.getD iB true = true → L.getD iA true = false → ∃ b, a.tmps.getD sB undef = .slice (some ⟨b, 0, none⟩) 1 1 ∧ PM + 2 < b ∧ b < u.heap.size ∧ u.cell? ⟨b, 0, none⟩ = some (.int .i64 z)
  row : L.getD iA true = false → RowZ u base vh st
  app : L.getD iA true = true → RowZ u base (a.tmps.getD sA undef) (xs ++ [z]) ∧ ∀ k, (a.tmps.getD sA undef).ownBlock = some k → k < PM ∨ PM + 2 < k
  tell : L.getD iT true = true → a.tmps.getD 7 undef = a.tmps.getD sA undef

section
variable {w u u' : World} {base PM : Nat} {ms is zs : List Value} {vh : Value} {st xs : List Int} {z : Int} {iB sB iA sA iS iT : Nat} {L : Array Bool} {a : Act}

theorem DoJ.keep (h : DoJ w base PM ms is zs vh st xs z iB sB iA sA iS iT L a u) (hb : Below u.heap.size u u') (hbs : base ≤ u.heap.size) {i d : Nat} (v : Value) (h1 : i ≠ iB) (h2 : i ≠ iA) (h3 : i ≠ iS) (h4 : i ≠ iT) (d1 : d ≠ sB) (d2 : d ≠ sA) (d3 : d ≠ 7) :
    DoJ w base PM ms is zs vh st xs z iB sB iA sA iS iT (L.setIfInBounds i true) (a.put (some d) v) u' := by
  have hs := hb.size
  have hz := h.size
  refine ⟨h.pm.below hb (by omega), h.pi.below hb (by omega), ?_, h.low.trans (hb.mono hbs), by omega, ?_, ?_, ?_, ?_⟩
  · rw [getD_set_ne true h3]; exact h.pr.below hb (by omega)
  · rw [getD_set_ne true h1, getD_set_ne true h2, getD_put_ne a d sB v d1]
    intro e1 e2
    obtain ⟨b, q1, q2, q3, q4⟩ := h.one e1 e2
    exact ⟨b, q1, q2, by omega, by rw [hb.cell (p := ⟨b, 0, none⟩) q3]; exact q4⟩
  · rw [getD_set_ne true h2]; intro e; exact (h.row e).below hb (Nat.le_refl _)
  · rw [getD_set_ne true h2, getD_put_ne a d sA v d2]; intro e; exact ⟨((h.app e).1).below hb (Nat.le_refl _), (h.app e).2⟩
  · rw [getD_set_ne true h4, getD_put_ne a d sA v d2, getD_put_ne a d 7 v d3]; exact h.tell

theorem DoJ.made (h : DoJ w base PM ms is zs vh st xs z iB sB iA sA iS iT L a u) (hb : Below u.heap.size u u') (hbs : base ≤ u.heap.size) (hc : u'.cell? ⟨u.heap.size, 0, none⟩ = some (.int .i64 z)) (hsz : u'.heap.size = u.heap.size + 1) (hd : sB < a.tmps.size) (h2 : iB ≠ iA) (h3 : iB ≠ iS) (h4 : iB ≠ iT) (d2 : sB ≠ sA) (d3 : sB ≠ 7) :
    DoJ w base PM ms is zs vh st xs z iB sB iA sA iS iT (L.setIfInBounds iB true) (a.put (some sB) (.slice (some ⟨u.heap.size, 0, none⟩) 1 1)) u' := by
  have hz := h.size
  refine ⟨h.pm.below hb (by omega), h.pi.below hb (by omega), ?_, h.low.trans (hb.mono hbs), by omega, ?_, ?_, ?_, ?_⟩
  · rw [getD_set_ne true h3]; exact h.pr.below hb (by omega)
  · rw [getD_put_self a sB _ hd]
    intro _ _
    exact ⟨_, rfl, hz, by omega, hc⟩
  · rw [getD_set_ne true h2]; intro e; exact (h.row e).below hb (Nat.le_refl _)
  · rw [getD_set_ne true h2, getD_put_ne a sB sA _ d2]; intro e; exact ⟨((h.app e).1).below hb (Nat.le_refl _), (h.app e).2⟩
  · rw [getD_set_ne true h4, getD_put_ne a sB sA _ d2, getD_put_ne a sB 7 _ d3]; exact h.tell

theorem DoJ.grew (h : DoJ w base PM ms is zs vh st xs z iB sB iA sA iS iT L a u) {v0 v' : Value} (hA : AppZ u base v0 (xs ++ [z]) v' u') (hv0 : ∀ k, v0.ownBlock = some k → base ≤ k ∧ k < PM) (hbs : base ≤ u.heap.size) (hl : iA < L.size) (hS : L.getD iS true = false) (hT : L.getD iT true = false) (hd : sA < a.tmps.size) (h1 : iA ≠ iB) (h3 : iA ≠ iS) (h4 : iA ≠ iT) (d3 : sA ≠ 7) :
    DoJ w base PM ms is zs vh st xs z iB sB iA sA iS iT (L.setIfInBounds iA true) (a.put (some sA) v') u' := by
  have hz := h.size
  have hs := hA.grown.size
  have blk : ∀ k, k < u.heap.size → PM ≤ k → u'.heap[k]? = u.heap[k]? := fun k q1 q2 => hA.grown.block k q1 fun e => by have := (hv0 k e.symm).2; omega
  refine ⟨h.pm.at_ (blk _ (by omega) (by omega)), h.pi.at_ (blk _ (by omega) (by omega)), ?_, ?_, by omega, ?_, ?_, ?_, ?_⟩
  · rw [getD_set_ne true h3]; exact h.pr.at_ (blk _ (by omega) (by omega))
  · exact h.low.trans ((Below.refl base u).grown hA.grown (by omega) fun k hk => by have := (hv0 k hk).1; omega)
  · rw [getD_set_self' hl]; intro _ e; cases e
  · rw [getD_set_self' hl]; intro e; cases e
  · rw [getD_put_self a sA _ hd]
    intro _
    refine ⟨hA.row, fun k hk => ?_⟩
    rcases hA.at_ with e | e
    · rw [e] at hk; have := (hv0 k hk).2; omega
    · rw [e] at hk; cases hk; omega
  · rw [getD_set_ne true h4, hT]; intro e; cases e

theorem DoJ.laid (h : DoJ w base PM ms is zs vh st xs z iB sB iA sA iS iT L a u) (hL : LaidG u u' (PM + 2) 0 ms) (hbs : base ≤ PM) (hl : iS < L.size) (hA : L.getD iA true = true) (h1 : iS ≠ iB) (h2 : iS ≠ iA) (h4 : iS ≠ iT) :
    DoJ w base PM ms is zs vh st xs z iB sB iA sA iS iT (L.setIfInBounds iS true) (a.put none undef) u' := by
  have hz := h.size
  have hs := hL.size
  refine ⟨hL.other h.pm (by omega), hL.other h.pi (by omega), ?_, hL.below _ _ (by omega) h.low, by omega, ?_, ?_, ?_, ?_⟩
  · rw [getD_set_self' hl, if_pos rfl]; exact hL.var h.pr
  · rw [getD_set_ne true h2, hA]; intro _ e; cases e
  · rw [getD_set_ne true h2, hA]; intro e; cases e
  · rw [getD_set_ne true h2]
    intro e
    obtain ⟨q1, q2⟩ := h.app e
    exact ⟨q1.at_ fun k hk => hL.block k (by have := q2 k hk; omega), q2⟩
  · rw [getD_set_ne true h4]; exact h.tell

theorem DoJ.told (h : DoJ w base PM ms is zs vh st xs z iB sB iA sA iS iT L a u) (hv : (v : Value) → v = a.tmps.getD sA undef → True) (hl : iT < L.size) (hd : 7 < a.tmps.size) (h1 : iT ≠ iB) (h2 : iT ≠ iA) (h3 : iT ≠ iS) (d1 : (7 : Nat) ≠ sB) (d2 : (7 : Nat) ≠ sA) :
    DoJ w base PM ms is zs vh st xs z iB sB iA sA iS iT (L.setIfInBounds iT true) (a.put (some 7) (a.tmps.getD sA undef)) u := by
  refine ⟨h.pm, h.pi, ?_, h.low, h.size, ?_, ?_, ?_, ?_⟩
  · rw [getD_set_ne true h3]; exact h.pr
  · rw [getD_set_ne true h1, getD_set_ne true h2, getD_put_ne a 7 sB _ d1]; exact h.one
  · rw [getD_set_ne true h2]; exact h.row
  · rw [getD_set_ne true h2, getD_put_ne a 7 sA _ d2]; exact h.app
  · rw [getD_put_self a 7 _ hd, getD_put_ne a 7 sA _ d2]; intro _; rfl
end

theorem zero_memD : (Tryz.prog.info? 28).map (fun i => (i.zero, i.size)) = some (some (.agg [Value.slice none 0 0, Value.slice none 0 0, Value.slice none 0 0].toArray), 3) := by kernel_rfl
theorem valI (p : InsD) : p.val = .agg [Value.int .i64 p.op, .int .i64 p.n, .int .i64 p.ak, .int .i64 p.at_].toArray := rfl
theorem run_loadG3 {B : Nat} {u : World} {x y z : Value} (h : CV u B 0 [x, y, z]) : (loadVar 28 ⟨B, 0, none⟩).run Tryz.prog u = .ok (.agg [x, y, z].toArray) u :=
  run_loadVarG (P := Tryz.prog) Tryz.isAgg28 Tryz.sizeOf28 rfl h

theorem top_at {st : List Int} {k : Nat} (h : st.length = k + 1) : st[k]? = some (topI st) := by
  unfold topI
  rw [h, Nat.add_sub_cancel, List.getElem?_eq_getElem (by omega)]
  rfl
theorem snd_at {st : List Int} {k : Nat} (h : st.length = k + 2) : st[k]? = some (sndI st) := by
  unfold sndI
  rw [h, Nat.add_sub_cancel, List.getElem?_eq_getElem (by omega)]
  rfl
theorem RowZ.cellAt {u : World} {base g n cap i : Nat} {st : List Int} {x : Int} (h : RowZ u base (.slice (some ⟨g, 0, none⟩) n cap) st) (hx : st[i]? = some x) : u.cell? ⟨g, i, none⟩ = some (.int .i64 x) := by
  have hl : 0 < st.length := by have := (List.getElem?_eq_some_iff.mp hx).1; omega
  obtain ⟨g', cap', hv, _, _, _, _, hc⟩ := h.block hl
  simp only [Value.slice.injEq, Option.some.injEq, Go.Addr.mk.injEq, and_true] at hv
  rw [hv.1]
  exact hc i x hx

set_option maxHeartbeats 8000000 in
theorem l5Do_push (w : World) (base : Nat) (ma mb mc : Value) (ad : Option Go.Addr) (n cap : Nat) (st : List Int) (p : InsD) (hop : p.op = 1) (hrow : RowZ w base (.slice ad n cap) st) (hn : st.length = n) (hb : base ≤ w.heap.size) (hl : st.length + 1 ≤ 16777216) (h1 : ∀ v ∈ [ma, mb, mc], v.oneCell' = true) :
    Calls Tryz.prog 36 #[.agg #[ma, mb, mc], .slice ad n cap, p.val] w fun e w' => ∃ v', e = .returned (.tuple #[.agg #[ma, mb, mc], v']) ∧ RowZ w' base v' (st ++ [p.n]) ∧ Below base w w' := by
  obtain ⟨op, pn, ak, at_⟩ := p
  simp only at hop
  subst hop
  have hZ := (zero_of_info (P := Tryz.prog) zero_memD).1
  have hv0 : ∀ k, (Value.slice ad n cap).ownBlock = some k → base ≤ k ∧ k < w.heap.size := hrow.lt
  obtain ⟨ms, hms⟩ : ∃ ms : List Value, ms = [ma, mb, mc] := ⟨_, rfl⟩
  have hone : ∀ v ∈ ms, v.oneCell' = true := by rw [hms]; exact h1
  have hm3 : ms.length = 3 := by rw [hms]; rfl
  have HROW : Hid (RowZ w base (.slice ad n cap) st) := hrow
  have HN : Hid (st.length = n) := hn
  clear hrow h1 hn
  rw [valI]
  go_enter Tryz.func36, Tryz.ntmps36
  go_wp2_with (refine wpList_boxG (vs := [ma, mb, mc]) rfl _ rfl rfl ?_)
  intro u1 g1 p1 s1
  go_wp2_with (refine wpList_boxG (vs := [Value.int .i64 1, .int .i64 pn, .int .i64 ak, .int .i64 at_]) rfl _ rfl rfl ?_)
  intro u2 g2 q2 s2
  have p2 := p1.below g2 (by omega)
  have G2 := g1.trans (g2.mono (by omega))
  clear g1 g2 p1
  go_wp2_with (refine wpList_allocG hZ rfl rfl ?_)
  intro u3 g3 r3 s3
  have p3 := p2.below g3 (by omega)
  have q3 := q2.below g3 (by omega)
  have G3 := G2.trans (g3.mono (by omega))
  clear g3 G2 p2 q2
  have c0 : u3.cell? ⟨w.heap.size + 1, 0, none⟩ = some (.int .i64 1) := q3.c 0 _ rfl
  go_wp2_with fail
  clear c0
  rw [← hms] at p3
  obtain ⟨is, his⟩ : ∃ is : List Value, is = [Value.int .i64 1, .int .i64 pn, .int .i64 ak, .int .i64 at_] := ⟨_, rfl⟩
  obtain ⟨zs, hzs⟩ : ∃ zs : List Value, zs = [Value.slice none 0 0, .slice none 0 0, .slice none 0 0] := ⟨_, rfl⟩
  rw [← his] at q3
  rw [← hzs] at r3
  obtain ⟨PM, hPM⟩ : ∃ PM, w.heap.size = PM := ⟨_, rfl⟩
  have hPMb : base ≤ PM := by omega
  have HJ0 : Hid (VarG u3 PM ms ∧ VarG u3 (PM + 1) is ∧ VarG u3 (PM + 2) zs ∧ Below base w u3 ∧ PM + 2 < u3.heap.size ∧ RowZ u3 base (.slice ad n cap) st) := ⟨hPM ▸ p3, hPM ▸ q3, hPM ▸ r3, G3.mono hb, by omega, HROW.out.below G3 (Nat.le_refl _)⟩
  rw [hPM] at hv0
  clear p3 q3 r3 G3 hb
  try rw [hPM]
  clear hPM s1 s2 s3
  refine wp_region_dagC (R := fun _ _ => True) (Φ := fun i v u => match i with
      | 0 => v = .agg ms.toArray
      | 1 => v = .slice ad n cap
      | 2 => v = .pointer (some ⟨PM + 1, 1, none⟩)
      | 3 => v = .int .i64 pn
      | _ => True)
    (J := fun L a u => DoJ w base PM ms is zs (.slice ad n cap) st st pn 4 19 5 20 6 7 L a u) (by kernel_rfl) (by kernel_rfl) (by kernel_rfl) trivial (fun _ _ _ _ _ => trivial) ?_ ?_ ?_ ?_
  · intro i v u u' hr
    exact fun h => h
  · exact ⟨HJ0.out.1.at_ rfl, HJ0.out.2.1.at_ rfl, HJ0.out.2.2.1.at_ rfl, Below.drew HJ0.out.2.2.2.1, HJ0.out.2.2.2.2.1, fun h => absurd h (by decide), fun _ => HJ0.out.2.2.2.2.2.at_ fun _ _ => rfl, fun h => absurd h (by decide), fun h => absurd h (by decide)⟩
  · intro i o ho L ac u hf hR0 hLs hLi hcl hp he hJ K' hK
    have hsz' : ac.tmps.size = 94 := hf.size
    have hLs : L.size = 8 := hLs
    have hbu : base ≤ u.heap.size := by have := hJ.size; omega
    have hPM := hJ.size
    rcases i with _ | _ | _ | _ | _ | _ | _ | _ | i
    · obtain rfl := Option.some.inj ho
      have q3 : ac.tmps.getD 3 undef = .pointer (some ⟨PM, 0, none⟩) := hf.at_ 3 (by kernel_rfl)
      clear hp he
      refine wantedG rfl (wp_loadG Tryz.isAgg28 Tryz.sizeOf28 (vs := ms) _ rfl q3 hm3 hJ.pm.c ?_)
      exact hK _ _ trivial (getD_put_self ac 15 _ (by show _ < ac.tmps.size; omega)) (hJ.keep (Below.refl _ _) hbu _ (by decide) (by decide) (by decide) (by decide) (by decide) (by decide) (by decide))
    · obtain rfl := Option.some.inj ho
      have q1 : ac.tmps.getD 1 undef = .slice ad n cap := hf.at_ 1 (by kernel_rfl)
      clear hp he
      go_simp
      exact hK _ _ trivial (getD_put_self ac 16 _ (by show _ < ac.tmps.size; omega)) (hJ.keep (Below.refl _ _) hbu _ (by decide) (by decide) (by decide) (by decide) (by decide) (by decide) (by decide))
    · obtain rfl := Option.some.inj ho
      have q5 : ac.tmps.getD 5 undef = .pointer (some ⟨PM + 1, 0, none⟩) := hf.at_ 5 (by kernel_rfl)
      clear hp he
      go_simp
      exact hK _ _ trivial (getD_put_self ac 17 _ (by show _ < ac.tmps.size; omega)) (hJ.keep (Below.refl _ _) hbu _ (by decide) (by decide) (by decide) (by decide) (by decide) (by decide) (by decide))
    · obtain rfl := Option.some.inj ho
      have q17 : ac.tmps.getD 17 undef = .pointer (some ⟨PM + 1, 1, none⟩) := hp 2 _ rfl (he _ (Array.mem_of_getElem? (i := 0) rfl) (by kernel_rfl))
      clear hp he
      have cp : u.cell? ⟨PM + 1, 1, none⟩ = some (.int .i64 pn) := by have := hJ.pi; rw [his] at this; exact this.c 1 _ rfl
      go_simp
      exact hK _ _ trivial (getD_put_self ac 18 _ (by show _ < ac.tmps.size; omega)) (hJ.keep (Below.refl _ _) hbu _ (by decide) (by decide) (by decide) (by decide) (by decide) (by decide) (by decide))
    · obtain rfl := Option.some.inj ho
      have q18 : ac.tmps.getD 18 undef = .int .i64 pn := hp 3 _ rfl (he _ (Array.mem_of_getElem? (i := 0) rfl) (by kernel_rfl))
      clear hp he
      have q18b : ac.tmps[18]?.getD undef = .int .i64 pn := by rw [← q18]; exact (Array.getD_eq_getD_getElem? ..).symm
      have HZ : Hid (ac.tmps.size = 94) := hsz'
      clear hsz' q18
      go_simp
      have hsz' := HZ.out
      exact hK _ _ trivial trivial (hJ.made ((Below.refl _ _).alloc (Nat.le_refl _) _) hbu (World.cell?_alloc_new _ #[.int .i64 (pn)] 3 0) (by simp) (by omega) (by decide) (by decide) (by decide) (by decide) (by decide))
    · obtain rfl := Option.some.inj ho
      have q16 : ac.tmps.getD 16 undef = .slice ad n cap := hp 1 _ rfl (he _ (Array.mem_of_getElem? (i := 0) rfl) (by kernel_rfl))
      have hAf : L.getD 5 true = false := hLi
      have hBt : L.getD 4 true = true := he _ (Array.mem_of_getElem? (i := 1) rfl) (by kernel_rfl)
      have hSf : L.getD 6 true = false := hcl.not (i := 6) (j := 5) (by kernel_rfl) hLi
      have hTf : L.getD 7 true = false := hcl.not (i := 7) (j := 5) (by kernel_rfl) hLi
      clear hp he
      obtain ⟨b, qB, hb1, hb2, hb3⟩ := hJ.one hBt hAf
      have hrow := hJ.row hAf
      refine step_appZ rfl (.tmp 16) (.tmp 19) rfl base q16 qB hrow hb3 hbu hl ?_
      intro v' u' hA
      exact hK _ _ trivial trivial (hJ.grew hA hv0 hbu (by omega) hSf hTf (by omega) (by decide) (by decide) (by decide) (by decide))
    · obtain rfl := Option.some.inj ho
      have q6 : ac.tmps.getD 6 undef = .pointer (some ⟨PM + 2, 0, none⟩) := hf.at_ 6 (by kernel_rfl)
      have q15 : ac.tmps.getD 15 undef = .agg ms.toArray := hp 0 _ rfl (he _ (Array.mem_of_getElem? (i := 0) rfl) (by kernel_rfl))
      have hAt : L.getD 5 true = true := he _ (Array.mem_of_getElem? (i := 1) rfl) (by kernel_rfl)
      clear hp he
      have hpr := hJ.pr
      rw [hLi, if_neg (by decide), hzs] at hpr
      have hrun := hpr.run 0 3 (show 0 + 3 ≤ 3 by decide)
      refine wantedG rfl (wp_storeG Tryz.sizeOf28 (vs := ms) (.tmp 6) (.tmp 15) rfl q6 q15 hm3 hone (fun y h1 h2 => hrun.1 y h1 (by omega)) (fun y h1 h2 => hrun.2 y h1 (by omega)) ?_)
      intro u' Lu
      exact hK _ _ trivial trivial (hJ.laid Lu hPMb (by omega) hAt (by decide) (by decide) (by decide))
    · obtain rfl := Option.some.inj ho
      clear hp he
      obtain ⟨vq, hvq⟩ : ∃ v, ac.tmps.getD 20 undef = v := ⟨_, rfl⟩
      have hJ7 := hJ.told (fun _ _ => trivial) (by omega) (by omega) (by decide) (by decide) (by decide) (by decide) (by decide)
      rw [hvq] at hJ7
      go_simp
      exact hK _ _ trivial trivial hJ7
    · exact absurd ho (by simp)
  · intro L ac u hf hR0 hp hJ
    have hA := (hJ.app (hp 5 _ rfl).1).1
    have hT := hJ.tell (hp 7 _ rfl).1
    have hpr := hJ.pr
    rw [if_pos (hp 6 _ rfl).1] at hpr
    have hlow := hJ.low
    obtain ⟨vq, hvq⟩ : ∃ v, ac.tmps.getD 20 undef = v := ⟨_, rfl⟩
    have m7 : ac.tmps.getD 7 undef = vq := hT.trans hvq
    rw [hvq] at hA
    clear hT hvq hp hJ hR0
    obtain ⟨fq, ea, hfv⟩ := act_lit ac 94 hf.size
    have md : ac.defers = [] := hf.defers
    rw [md] at ea
    have m0 := hf.at_ 0 (by kernel_rfl)
    have m1 := hf.at_ 1 (by kernel_rfl)
    have m2 := hf.at_ 2 (by kernel_rfl)
    have m3 := hf.at_ 3 (by kernel_rfl)
    have m4 := hf.at_ 4 (by kernel_rfl)
    have m5 := hf.at_ 5 (by kernel_rfl)
    have m6 := hf.at_ 6 (by kernel_rfl)
    have m8 := hf.at_ 8 (by kernel_rfl)
    have m9 := hf.at_ 9 (by kernel_rfl)
    have m10 := hf.at_ 10 (by kernel_rfl)
    have m11 := hf.at_ 11 (by kernel_rfl)
    have m12 := hf.at_ 12 (by kernel_rfl)
    have m13 := hf.at_ 13 (by kernel_rfl)
    have m14 := hf.at_ 14 (by kernel_rfl)
    have m21 := hf.at_ 21 (by kernel_rfl)
    have m22 := hf.at_ 22 (by kernel_rfl)
    have m23 := hf.at_ 23 (by kernel_rfl)
    have m24 := hf.at_ 24 (by kernel_rfl)
    have m25 := hf.at_ 25 (by kernel_rfl)
    have m26 := hf.at_ 26 (by kernel_rfl)
    have m27 := hf.at_ 27 (by kernel_rfl)
    have m28 := hf.at_ 28 (by kernel_rfl)
    have m29 := hf.at_ 29 (by kernel_rfl)
    have m30 := hf.at_ 30 (by kernel_rfl)
    have m31 := hf.at_ 31 (by kernel_rfl)
    have m32 := hf.at_ 32 (by kernel_rfl)
    have m33 := hf.at_ 33 (by kernel_rfl)
    have m34 := hf.at_ 34 (by kernel_rfl)
    have m35 := hf.at_ 35 (by kernel_rfl)
    have m36 := hf.at_ 36 (by kernel_rfl)
    have m37 := hf.at_ 37 (by kernel_rfl)
    have m38 := hf.at_ 38 (by kernel_rfl)
    have m39 := hf.at_ 39 (by kernel_rfl)
    have m40 := hf.at_ 40 (by kernel_rfl)
    have m41 := hf.at_ 41 (by kernel_rfl)
    have m42 := hf.at_ 42 (by kernel_rfl)
    have m43 := hf.at_ 43 (by kernel_rfl)
    have m44 := hf.at_ 44 (by kernel_rfl)
    have m45 := hf.at_ 45 (by kernel_rfl)
    have m46 := hf.at_ 46 (by kernel_rfl)
    have m47 := hf.at_ 47 (by kernel_rfl)
    have m48 := hf.at_ 48 (by kernel_rfl)
    have m49 := hf.at_ 49 (by kernel_rfl)
    have m50 := hf.at_ 50 (by kernel_rfl)
    have m51 := hf.at_ 51 (by kernel_rfl)
    have m52 := hf.at_ 52 (by kernel_rfl)
    have m53 := hf.at_ 53 (by kernel_rfl)
    have m54 := hf.at_ 54 (by kernel_rfl)
    have m55 := hf.at_ 55 (by kernel_rfl)
    have m56 := hf.at_ 56 (by kernel_rfl)
    have m57 := hf.at_ 57 (by kernel_rfl)
    have m58 := hf.at_ 58 (by kernel_rfl)
    have m59 := hf.at_ 59 (by kernel_rfl)
    have m60 := hf.at_ 60 (by kernel_rfl)
    have m61 := hf.at_ 61 (by kernel_rfl)
    have m62 := hf.at_ 62 (by kernel_rfl)
    have m63 := hf.at_ 63 (by kernel_rfl)
    have m64 := hf.at_ 64 (by kernel_rfl)
    have m65 := hf.at_ 65 (by kernel_rfl)
    have m66 := hf.at_ 66 (by kernel_rfl)
    have m67 := hf.at_ 67 (by kernel_rfl)
    have m68 := hf.at_ 68 (by kernel_rfl)
    have m69 := hf.at_ 69 (by kernel_rfl)
    have m70 := hf.at_ 70 (by kernel_rfl)
    have m71 := hf.at_ 71 (by kernel_rfl)
    have m72 := hf.at_ 72 (by kernel_rfl)
    have m73 := hf.at_ 73 (by kernel_rfl)
    have m74 := hf.at_ 74 (by kernel_rfl)
    have m75 := hf.at_ 75 (by kernel_rfl)
    have m76 := hf.at_ 76 (by kernel_rfl)
    have m77 := hf.at_ 77 (by kernel_rfl)
    have m78 := hf.at_ 78 (by kernel_rfl)
    have m79 := hf.at_ 79 (by kernel_rfl)
    have m80 := hf.at_ 80 (by kernel_rfl)
    have m81 := hf.at_ 81 (by kernel_rfl)
    have m82 := hf.at_ 82 (by kernel_rfl)
    have m83 := hf.at_ 83 (by kernel_rfl)
    have m84 := hf.at_ 84 (by kernel_rfl)
    have m85 := hf.at_ 85 (by kernel_rfl)
    have m86 := hf.at_ 86 (by kernel_rfl)
    have m87 := hf.at_ 87 (by kernel_rfl)
    have m88 := hf.at_ 88 (by kernel_rfl)
    have m89 := hf.at_ 89 (by kernel_rfl)
    have m90 := hf.at_ 90 (by kernel_rfl)
    have m91 := hf.at_ 91 (by kernel_rfl)
    have m92 := hf.at_ 92 (by kernel_rfl)
    have m93 := hf.at_ 93 (by kernel_rfl)
    rw [← hfv] at m0 m1 m2 m3 m4 m5 m6 m8 m9 m10 m11 m12 m13 m14 m21 m22 m23 m24 m25 m26 m27 m28 m29 m30 m31 m32 m33 m34 m35 m36 m37 m38 m39 m40 m41 m42 m43 m44 m45 m46 m47 m48 m49 m50 m51 m52 m53 m54 m55 m56 m57 m58 m59 m60 m61 m62 m63 m64 m65 m66 m67 m68 m69 m70 m71 m72 m73 m74 m75 m76 m77 m78 m79 m80 m81 m82 m83 m84 m85 m86 m87 m88 m89 m90 m91 m92 m93 m7
    simp only [Array.getD_eq_getD_getElem?, List.getElem?_toArray, List.getElem?_cons_succ, List.getElem?_cons_zero, Option.getD_some] at m0 m1 m2 m3 m4 m5 m6 m8 m9 m10 m11 m12 m13 m14 m21 m22 m23 m24 m25 m26 m27 m28 m29 m30 m31 m32 m33 m34 m35 m36 m37 m38 m39 m40 m41 m42 m43 m44 m45 m46 m47 m48 m49 m50 m51 m52 m53 m54 m55 m56 m57 m58 m59 m60 m61 m62 m63 m64 m65 m66 m67 m68 m69 m70 m71 m72 m73 m74 m75 m76 m77 m78 m79 m80 m81 m82 m83 m84 m85 m86 m87 m88 m89 m90 m91 m92 m93
    simp only [List.range, List.range.loop, List.map_cons, List.map_nil, m0, m1, m2, m3, m4, m5, m6, m8, m9, m10, m11, m12, m13, m14, m21, m22, m23, m24, m25, m26, m27, m28, m29, m30, m31, m32, m33, m34, m35, m36, m37, m38, m39, m40, m41, m42, m43, m44, m45, m46, m47, m48, m49, m50, m51, m52, m53, m54, m55, m56, m57, m58, m59, m60, m61, m62, m63, m64, m65, m66, m67, m68, m69, m70, m71, m72, m73, m74, m75, m76, m77, m78, m79, m80, m81, m82, m83, m84, m85, m86, m87, m88, m89, m90, m91, m92, m93, m7] at ea
    subst ea
    clear m0 m1 m2 m3 m4 m5 m6 m8 m9 m10 m11 m12 m13 m14 m21 m22 m23 m24 m25 m26 m27 m28 m29 m30 m31 m32 m33 m34 m35 m36 m37 m38 m39 m40 m41 m42 m43 m44 m45 m46 m47 m48 m49 m50 m51 m52 m53 m54 m55 m56 m57 m58 m59 m60 m61 m62 m63 m64 m65 m66 m67 m68 m69 m70 m71 m72 m73 m74 m75 m76 m77 m78 m79 m80 m81 m82 m83 m84 m85 m86 m87 m88 m89 m90 m91 m92 m93 m7 hfv md hf
    go_wp2
    refine bodyPost_ret (v := .tuple #[.agg ms.toArray, vq]) ?_ rfl ⟨vq, by rw [hms], hA, hlow⟩
    simp [results, Tryz.results36, go_sem]
    rw [hms] at hpr ⊢
    have hpr : VarG u (PM + 1 + 1) [ma, mb, mc] := hpr
    have c0 := hpr.c 0 _ rfl
    have c1 := hpr.c 1 _ rfl
    have c2 := hpr.c 2 _ rfl
    simp [c0, c1, c2]

set_option maxHeartbeats 8000000 in
theorem l5Do_load (w : World) (base : Nat) (ma mb mc : Value) (ad : Option Go.Addr) (n cap : Nat) (st : List Int) (p : InsD) (hop : p.op = 2) (hrow : RowZ w base (.slice ad n cap) st) (hn : st.length = n) (hb : base ≤ w.heap.size) (hl : st.length + 1 ≤ 16777216) (h1 : ∀ v ∈ [ma, mb, mc], v.oneCell' = true) (lo hi : Nat) (d : MemD) (hm : MI w lo hi (.agg #[ma, mb, mc]) d) (hib : hi ≤ base) (hd : memOk d = true) (ha : addrOk ⟨p.ak, p.at_⟩ = true) :
    Calls Tryz.prog 36 #[.agg #[ma, mb, mc], .slice ad n cap, p.val] w fun e w' => ∃ v', e = .returned (.tuple #[.agg #[ma, mb, mc], v']) ∧ RowZ w' base v' (st ++ [getD_ d p.ak p.at_]) ∧ Below base w w' := by
  obtain ⟨op, pn, ak, at_⟩ := p
  simp only at hop
  subst hop
  have hZ := (zero_of_info (P := Tryz.prog) zero_memD).1
  have hv0 : ∀ k, (Value.slice ad n cap).ownBlock = some k → base ≤ k ∧ k < w.heap.size := hrow.lt
  obtain ⟨ms, hms⟩ : ∃ ms : List Value, ms = [ma, mb, mc] := ⟨_, rfl⟩
  have hone : ∀ v ∈ ms, v.oneCell' = true := by rw [hms]; exact h1
  have hm3 : ms.length = 3 := by rw [hms]; rfl
  have HROW : Hid (RowZ w base (.slice ad n cap) st) := hrow
  have HN : Hid (st.length = n) := hn
  clear hrow h1 hn
  have HM : Hid (MI w lo hi (.agg #[ma, mb, mc]) d) := hm
  clear hm
  simp only at ha
  obtain ⟨zz, hzz⟩ : ∃ z, getD_ d ak at_ = z := ⟨_, rfl⟩
  have HGZ : Hid (((memList d (⟨ak, at_⟩ : AddrD).kind)[(⟨ak, at_⟩ : AddrD).at_.toNat]?).getD 0 = zz) := hzz
  have HZZ : Hid (getD_ d ak at_ = zz) := hzz
  clear hzz
  rw [valI]
  go_enter Tryz.func36, Tryz.ntmps36
  go_wp2_with (refine wpList_boxG (vs := [ma, mb, mc]) rfl _ rfl rfl ?_)
  intro u1 g1 p1 s1
  go_wp2_with (refine wpList_boxG (vs := [Value.int .i64 2, .int .i64 pn, .int .i64 ak, .int .i64 at_]) rfl _ rfl rfl ?_)
  intro u2 g2 q2 s2
  have p2 := p1.below g2 (by omega)
  have G2 := g1.trans (g2.mono (by omega))
  clear g1 g2 p1
  go_wp2_with (refine wpList_allocG hZ rfl rfl ?_)
  intro u3 g3 r3 s3
  have p3 := p2.below g3 (by omega)
  have q3 := q2.below g3 (by omega)
  have G3 := G2.trans (g3.mono (by omega))
  clear g3 G2 p2 q2
  have c0 : u3.cell? ⟨w.heap.size + 1, 0, none⟩ = some (.int .i64 2) := q3.c 0 _ rfl
  go_wp2_with fail
  clear c0
  rw [← hms] at p3
  obtain ⟨is, his⟩ : ∃ is : List Value, is = [Value.int .i64 2, .int .i64 pn, .int .i64 ak, .int .i64 at_] := ⟨_, rfl⟩
  obtain ⟨zs, hzs⟩ : ∃ zs : List Value, zs = [Value.slice none 0 0, .slice none 0 0, .slice none 0 0] := ⟨_, rfl⟩
  rw [← his] at q3
  rw [← hzs] at r3
  obtain ⟨PM, hPM⟩ : ∃ PM, w.heap.size = PM := ⟨_, rfl⟩
  have hPMb : base ≤ PM := by omega
  have HJ0 : Hid (VarG u3 PM ms ∧ VarG u3 (PM + 1) is ∧ VarG u3 (PM + 2) zs ∧ Below base w u3 ∧ PM + 2 < u3.heap.size ∧ RowZ u3 base (.slice ad n cap) st) := ⟨hPM ▸ p3, hPM ▸ q3, hPM ▸ r3, G3.mono hb, by omega, HROW.out.below G3 (Nat.le_refl _)⟩
  rw [hPM] at hv0
  clear p3 q3 r3 G3 hb
  try rw [hPM]
  clear hPM s1 s2 s3
  refine wp_region_dagC (R := fun _ _ => True) (Φ := fun i v u => match i with
      | 0 => v = .agg ms.toArray
      | 1 => v = .slice ad n cap
      | 2 => v = .agg ms.toArray
      | 3 => v = .pointer (some ⟨PM + 1, 2, none⟩)
      | 4 => v = .agg #[.int .i64 ak, .int .i64 at_]
      | 5 => v = .int .i64 (zz)
      | _ => True)
    (J := fun L a u => DoJ w base PM ms is zs (.slice ad n cap) st st (zz) 6 29 7 30 8 9 L a u) (by kernel_rfl) (by kernel_rfl) (by kernel_rfl) trivial (fun _ _ _ _ _ => trivial) ?_ ?_ ?_ ?_
  · intro i v u u' hr
    exact fun h => h
  · exact ⟨HJ0.out.1.at_ rfl, HJ0.out.2.1.at_ rfl, HJ0.out.2.2.1.at_ rfl, Below.drew HJ0.out.2.2.2.1, HJ0.out.2.2.2.2.1, fun h => absurd h (by decide), fun _ => HJ0.out.2.2.2.2.2.at_ fun _ _ => rfl, fun h => absurd h (by decide), fun h => absurd h (by decide)⟩
  · intro i o ho L ac u hf hR0 hLs hLi hcl hp he hJ K' hK
    have hsz' : ac.tmps.size = 94 := hf.size
    have hLs : L.size = 10 := hLs
    have hbu : base ≤ u.heap.size := by have := hJ.size; omega
    have hPM := hJ.size
    rcases i with _ | _ | _ | _ | _ | _ | _ | _ | _ | _ | i
    · obtain rfl := Option.some.inj ho
      have q3 : ac.tmps.getD 3 undef = .pointer (some ⟨PM, 0, none⟩) := hf.at_ 3 (by kernel_rfl)
      clear hp he
      refine wantedG rfl (wp_loadG Tryz.isAgg28 Tryz.sizeOf28 (vs := ms) _ rfl q3 hm3 hJ.pm.c ?_)
      exact hK _ _ trivial (getD_put_self ac 23 _ (by show _ < ac.tmps.size; omega)) (hJ.keep (Below.refl _ _) hbu _ (by decide) (by decide) (by decide) (by decide) (by decide) (by decide) (by decide))
    · obtain rfl := Option.some.inj ho
      have q1 : ac.tmps.getD 1 undef = .slice ad n cap := hf.at_ 1 (by kernel_rfl)
      clear hp he
      go_simp
      exact hK _ _ trivial (getD_put_self ac 24 _ (by show _ < ac.tmps.size; omega)) (hJ.keep (Below.refl _ _) hbu _ (by decide) (by decide) (by decide) (by decide) (by decide) (by decide) (by decide))
    · obtain rfl := Option.some.inj ho
      have q3 : ac.tmps.getD 3 undef = .pointer (some ⟨PM, 0, none⟩) := hf.at_ 3 (by kernel_rfl)
      clear hp he
      refine wantedG rfl (wp_loadG Tryz.isAgg28 Tryz.sizeOf28 (vs := ms) _ rfl q3 hm3 hJ.pm.c ?_)
      exact hK _ _ trivial (getD_put_self ac 25 _ (by show _ < ac.tmps.size; omega)) (hJ.keep (Below.refl _ _) hbu _ (by decide) (by decide) (by decide) (by decide) (by decide) (by decide) (by decide))
    · obtain rfl := Option.some.inj ho
      have q5 : ac.tmps.getD 5 undef = .pointer (some ⟨PM + 1, 0, none⟩) := hf.at_ 5 (by kernel_rfl)
      clear hp he
      go_simp
      exact hK _ _ trivial (getD_put_self ac 26 _ (by show _ < ac.tmps.size; omega)) (hJ.keep (Below.refl _ _) hbu _ (by decide) (by decide) (by decide) (by decide) (by decide) (by decide) (by decide))
    · obtain rfl := Option.some.inj ho
      have q26 : ac.tmps.getD 26 undef = .pointer (some ⟨PM + 1, 2, none⟩) := hp 3 _ rfl (he _ (Array.mem_of_getElem? (i := 0) rfl) (by kernel_rfl))
      clear hp he
      have cp2 : u.cell? ⟨PM + 1, 2, none⟩ = some (.int .i64 ak) := by have := hJ.pi; rw [his] at this; exact this.c 2 _ rfl
      have cp3 : u.cell? ⟨PM + 1, 3, none⟩ = some (.int .i64 at_) := by have := hJ.pi; rw [his] at this; exact this.c 3 _ rfl
      go_simp
      exact hK _ _ trivial (getD_put_self ac 27 _ (by show _ < ac.tmps.size; omega)) (hJ.keep (Below.refl _ _) hbu _ (by decide) (by decide) (by decide) (by decide) (by decide) (by decide) (by decide))
    · obtain rfl := Option.some.inj ho
      have q25 : ac.tmps.getD 25 undef = .agg ms.toArray := hp 2 _ rfl (he _ (Array.mem_of_getElem? (i := 0) rfl) (by kernel_rfl))
      have q27 : ac.tmps.getD 27 undef = .agg #[.int .i64 ak, .int .i64 at_] := hp 4 _ rfl (he _ (Array.mem_of_getElem? (i := 1) rfl) (by kernel_rfl))
      clear hp he
      go_simp
      have hc := l2Get_any u lo hi _ d ⟨ak, at_⟩ (HM.out.below hJ.low hib) (by omega) hd ha
      rw [HGZ.out] at hc
      refine hc.mono ?_
      rintro e1 u' ⟨rfl, hbq⟩
      exact hK _ _ trivial (getD_put_self ac 28 _ (by show _ < ac.tmps.size; omega)) (hJ.keep hbq hbu _ (by decide) (by decide) (by decide) (by decide) (by decide) (by decide) (by decide))
    · obtain rfl := Option.some.inj ho
      have q28 : ac.tmps.getD 28 undef = .int .i64 (zz) := hp 5 _ rfl (he _ (Array.mem_of_getElem? (i := 0) rfl) (by kernel_rfl))
      clear hp he
      have q28b : ac.tmps[28]?.getD undef = .int .i64 (zz) := by rw [← q28]; exact (Array.getD_eq_getD_getElem? ..).symm
      have HZ : Hid (ac.tmps.size = 94) := hsz'
      clear hsz' q28
      go_simp
      have hsz' := HZ.out
      exact hK _ _ trivial trivial (hJ.made ((Below.refl _ _).alloc (Nat.le_refl _) _) hbu (World.cell?_alloc_new _ #[.int .i64 ((zz))] 3 0) (by simp) (by omega) (by decide) (by decide) (by decide) (by decide) (by decide))
    · obtain rfl := Option.some.inj ho
      have q24 : ac.tmps.getD 24 undef = .slice ad n cap := hp 1 _ rfl (he _ (Array.mem_of_getElem? (i := 0) rfl) (by kernel_rfl))
      have hAf : L.getD 7 true = false := hLi
      have hBt : L.getD 6 true = true := he _ (Array.mem_of_getElem? (i := 1) rfl) (by kernel_rfl)
      have hSf : L.getD 8 true = false := hcl.not (i := 8) (j := 7) (by kernel_rfl) hLi
      have hTf : L.getD 9 true = false := hcl.not (i := 9) (j := 7) (by kernel_rfl) hLi
      clear hp he
      obtain ⟨b, qB, hb1, hb2, hb3⟩ := hJ.one hBt hAf
      have hrow := hJ.row hAf
      refine step_appZ rfl (.tmp 24) (.tmp 29) rfl base q24 qB hrow hb3 hbu hl ?_
      intro v' u' hA
      exact hK _ _ trivial trivial (hJ.grew hA hv0 hbu (by omega) hSf hTf (by omega) (by decide) (by decide) (by decide) (by decide))
    · obtain rfl := Option.some.inj ho
      have q6 : ac.tmps.getD 6 undef = .pointer (some ⟨PM + 2, 0, none⟩) := hf.at_ 6 (by kernel_rfl)
      have q23 : ac.tmps.getD 23 undef = .agg ms.toArray := hp 0 _ rfl (he _ (Array.mem_of_getElem? (i := 0) rfl) (by kernel_rfl))
      have hAt : L.getD 7 true = true := he _ (Array.mem_of_getElem? (i := 1) rfl) (by kernel_rfl)
      clear hp he
      have hpr := hJ.pr
      rw [hLi, if_neg (by decide), hzs] at hpr
      have hrun := hpr.run 0 3 (show 0 + 3 ≤ 3 by decide)
      refine wantedG rfl (wp_storeG Tryz.sizeOf28 (vs := ms) (.tmp 6) (.tmp 23) rfl q6 q23 hm3 hone (fun y h1 h2 => hrun.1 y h1 (by omega)) (fun y h1 h2 => hrun.2 y h1 (by omega)) ?_)
      intro u' Lu
      exact hK _ _ trivial trivial (hJ.laid Lu hPMb (by omega) hAt (by decide) (by decide) (by decide))
    · obtain rfl := Option.some.inj ho
      clear hp he
      obtain ⟨vq, hvq⟩ : ∃ v, ac.tmps.getD 30 undef = v := ⟨_, rfl⟩
      have hJ7 := hJ.told (fun _ _ => trivial) (by omega) (by omega) (by decide) (by decide) (by decide) (by decide) (by decide)
      rw [hvq] at hJ7
      go_simp
      exact hK _ _ trivial trivial hJ7
    · exact absurd ho (by simp)
  · intro L ac u hf hR0 hp hJ
    have hA := (hJ.app (hp 7 _ rfl).1).1
    have hT := hJ.tell (hp 9 _ rfl).1
    have hpr := hJ.pr
    rw [if_pos (hp 8 _ rfl).1] at hpr
    have hlow := hJ.low
    obtain ⟨vq, hvq⟩ : ∃ v, ac.tmps.getD 30 undef = v := ⟨_, rfl⟩
    have m7 : ac.tmps.getD 7 undef = vq := hT.trans hvq
    rw [hvq] at hA
    clear hT hvq hp hJ hR0
    obtain ⟨fq, ea, hfv⟩ := act_lit ac 94 hf.size
    have md : ac.defers = [] := hf.defers
    rw [md] at ea
    have m0 := hf.at_ 0 (by kernel_rfl)
    have m1 := hf.at_ 1 (by kernel_rfl)
    have m2 := hf.at_ 2 (by kernel_rfl)
    have m3 := hf.at_ 3 (by kernel_rfl)
    have m4 := hf.at_ 4 (by kernel_rfl)
    have m5 := hf.at_ 5 (by kernel_rfl)
    have m6 := hf.at_ 6 (by kernel_rfl)
    have m8 := hf.at_ 8 (by kernel_rfl)
    have m9 := hf.at_ 9 (by kernel_rfl)
    have m10 := hf.at_ 10 (by kernel_rfl)
    have m11 := hf.at_ 11 (by kernel_rfl)
    have m12 := hf.at_ 12 (by kernel_rfl)
    have m13 := hf.at_ 13 (by kernel_rfl)
    have m14 := hf.at_ 14 (by kernel_rfl)
    have m15 := hf.at_ 15 (by kernel_rfl)
    have m16 := hf.at_ 16 (by kernel_rfl)
    have m17 := hf.at_ 17 (by kernel_rfl)
    have m18 := hf.at_ 18 (by kernel_rfl)
    have m19 := hf.at_ 19 (by kernel_rfl)
    have m20 := hf.at_ 20 (by kernel_rfl)
    have m21 := hf.at_ 21 (by kernel_rfl)
    have m22 := hf.at_ 22 (by kernel_rfl)
    have m31 := hf.at_ 31 (by kernel_rfl)
    have m32 := hf.at_ 32 (by kernel_rfl)
    have m33 := hf.at_ 33 (by kernel_rfl)
    have m34 := hf.at_ 34 (by kernel_rfl)
    have m35 := hf.at_ 35 (by kernel_rfl)
    have m36 := hf.at_ 36 (by kernel_rfl)
    have m37 := hf.at_ 37 (by kernel_rfl)
    have m38 := hf.at_ 38 (by kernel_rfl)
    have m39 := hf.at_ 39 (by kernel_rfl)
    have m40 := hf.at_ 40 (by kernel_rfl)
    have m41 := hf.at_ 41 (by kernel_rfl)
    have m42 := hf.at_ 42 (by kernel_rfl)
    have m43 := hf.at_ 43 (by kernel_rfl)
    have m44 := hf.at_ 44 (by kernel_rfl)
    have m45 := hf.at_ 45 (by kernel_rfl)
    have m46 := hf.at_ 46 (by kernel_rfl)
    have m47 := hf.at_ 47 (by kernel_rfl)
    have m48 := hf.at_ 48 (by kernel_rfl)
    have m49 := hf.at_ 49 (by kernel_rfl)
    have m50 := hf.at_ 50 (by kernel_rfl)
    have m51 := hf.at_ 51 (by kernel_rfl)
    have m52 := hf.at_ 52 (by kernel_rfl)
    have m53 := hf.at_ 53 (by kernel_rfl)
    have m54 := hf.at_ 54 (by kernel_rfl)
    have m55 := hf.at_ 55 (by kernel_rfl)
    have m56 := hf.at_ 56 (by kernel_rfl)
    have m57 := hf.at_ 57 (by kernel_rfl)
    have m58 := hf.at_ 58 (by kernel_rfl)
    have m59 := hf.at_ 59 (by kernel_rfl)
    have m60 := hf.at_ 60 (by kernel_rfl)
    have m61 := hf.at_ 61 (by kernel_rfl)
    have m62 := hf.at_ 62 (by kernel_rfl)
    have m63 := hf.at_ 63 (by kernel_rfl)
    have m64 := hf.at_ 64 (by kernel_rfl)
    have m65 := hf.at_ 65 (by kernel_rfl)
    have m66 := hf.at_ 66 (by kernel_rfl)
    have m67 := hf.at_ 67 (by kernel_rfl)
    have m68 := hf.at_ 68 (by kernel_rfl)
    have m69 := hf.at_ 69 (by kernel_rfl)
    have m70 := hf.at_ 70 (by kernel_rfl)
    have m71 := hf.at_ 71 (by kernel_rfl)
    have m72 := hf.at_ 72 (by kernel_rfl)
    have m73 := hf.at_ 73 (by kernel_rfl)
    have m74 := hf.at_ 74 (by kernel_rfl)
    have m75 := hf.at_ 75 (by kernel_rfl)
    have m76 := hf.at_ 76 (by kernel_rfl)
    have m77 := hf.at_ 77 (by kernel_rfl)
    have m78 := hf.at_ 78 (by kernel_rfl)
    have m79 := hf.at_ 79 (by kernel_rfl)
    have m80 := hf.at_ 80 (by kernel_rfl)
    have m81 := hf.at_ 81 (by kernel_rfl)
    have m82 := hf.at_ 82 (by kernel_rfl)
    have m83 := hf.at_ 83 (by kernel_rfl)
    have m84 := hf.at_ 84 (by kernel_rfl)
    have m85 := hf.at_ 85 (by kernel_rfl)
    have m86 := hf.at_ 86 (by kernel_rfl)
    have m87 := hf.at_ 87 (by kernel_rfl)
    have m88 := hf.at_ 88 (by kernel_rfl)
    have m89 := hf.at_ 89 (by kernel_rfl)
    have m90 := hf.at_ 90 (by kernel_rfl)
    have m91 := hf.at_ 91 (by kernel_rfl)
    have m92 := hf.at_ 92 (by kernel_rfl)
    have m93 := hf.at_ 93 (by kernel_rfl)
    rw [← hfv] at m0 m1 m2 m3 m4 m5 m6 m8 m9 m10 m11 m12 m13 m14 m15 m16 m17 m18 m19 m20 m21 m22 m31 m32 m33 m34 m35 m36 m37 m38 m39 m40 m41 m42 m43 m44 m45 m46 m47 m48 m49 m50 m51 m52 m53 m54 m55 m56 m57 m58 m59 m60 m61 m62 m63 m64 m65 m66 m67 m68 m69 m70 m71 m72 m73 m74 m75 m76 m77 m78 m79 m80 m81 m82 m83 m84 m85 m86 m87 m88 m89 m90 m91 m92 m93 m7
    simp only [Array.getD_eq_getD_getElem?, List.getElem?_toArray, List.getElem?_cons_succ, List.getElem?_cons_zero, Option.getD_some] at m0 m1 m2 m3 m4 m5 m6 m8 m9 m10 m11 m12 m13 m14 m15 m16 m17 m18 m19 m20 m21 m22 m31 m32 m33 m34 m35 m36 m37 m38 m39 m40 m41 m42 m43 m44 m45 m46 m47 m48 m49 m50 m51 m52 m53 m54 m55 m56 m57 m58 m59 m60 m61 m62 m63 m64 m65 m66 m67 m68 m69 m70 m71 m72 m73 m74 m75 m76 m77 m78 m79 m80 m81 m82 m83 m84 m85 m86 m87 m88 m89 m90 m91 m92 m93
    simp only [List.range, List.range.loop, List.map_cons, List.map_nil, m0, m1, m2, m3, m4, m5, m6, m8, m9, m10, m11, m12, m13, m14, m15, m16, m17, m18, m19, m20, m21, m22, m31, m32, m33, m34, m35, m36, m37, m38, m39, m40, m41, m42, m43, m44, m45, m46, m47, m48, m49, m50, m51, m52, m53, m54, m55, m56, m57, m58, m59, m60, m61, m62, m63, m64, m65, m66, m67, m68, m69, m70, m71, m72, m73, m74, m75, m76, m77, m78, m79, m80, m81, m82, m83, m84, m85, m86, m87, m88, m89, m90, m91, m92, m93, m7] at ea
    subst ea
    clear m0 m1 m2 m3 m4 m5 m6 m8 m9 m10 m11 m12 m13 m14 m15 m16 m17 m18 m19 m20 m21 m22 m31 m32 m33 m34 m35 m36 m37 m38 m39 m40 m41 m42 m43 m44 m45 m46 m47 m48 m49 m50 m51 m52 m53 m54 m55 m56 m57 m58 m59 m60 m61 m62 m63 m64 m65 m66 m67 m68 m69 m70 m71 m72 m73 m74 m75 m76 m77 m78 m79 m80 m81 m82 m83 m84 m85 m86 m87 m88 m89 m90 m91 m92 m93 m7 hfv md hf
    go_wp2
    refine bodyPost_ret (v := .tuple #[.agg ms.toArray, vq]) ?_ rfl ⟨vq, by rw [hms], by show RowZ _ _ _ (st ++ [getD_ d ak at_]); rw [HZZ.out]; exact hA, hlow⟩
    simp [results, Tryz.results36, go_sem]
    rw [hms] at hpr ⊢
    have hpr : VarG u (PM + 1 + 1) [ma, mb, mc] := hpr
    have c0 := hpr.c 0 _ rfl
    have c1 := hpr.c 1 _ rfl
    have c2 := hpr.c 2 _ rfl
    simp [c0, c1, c2]

set_option maxHeartbeats 8000000 in
theorem l5Do_two (w : World) (base : Nat) (ma mb mc : Value) (ad : Option Go.Addr) (n cap : Nat) (st : List Int) (p : InsD) (hop : p.op = 4) (hrow : RowZ w base (.slice ad n cap) st) (hn : st.length = n) (hb : base ≤ w.heap.size) (hl : st.length + 1 ≤ 16777216) (h1 : ∀ v ∈ [ma, mb, mc], v.oneCell' = true) (hk : 2 ≤ n) :
    Calls Tryz.prog 36 #[.agg #[ma, mb, mc], .slice ad n cap, p.val] w fun e w' => ∃ v', e = .returned (.tuple #[.agg #[ma, mb, mc], v']) ∧ RowZ w' base v' (st.take (st.length - 2) ++ [twoZ p.n (sndI st) (topI st)]) ∧ Below base w w' := by
  obtain ⟨op, pn, ak, at_⟩ := p
  simp only at hop
  subst hop
  have hZ := (zero_of_info (P := Tryz.prog) zero_memD).1
  have hv0 : ∀ k, (Value.slice ad n cap).ownBlock = some k → base ≤ k ∧ k < w.heap.size := hrow.lt
  obtain ⟨ms, hms⟩ : ∃ ms : List Value, ms = [ma, mb, mc] := ⟨_, rfl⟩
  have hone : ∀ v ∈ ms, v.oneCell' = true := by rw [hms]; exact h1
  have hm3 : ms.length = 3 := by rw [hms]; rfl
  have HROW : Hid (RowZ w base (.slice ad n cap) st) := hrow
  have HN : Hid (st.length = n) := hn
  clear hrow h1 hn
  obtain ⟨k, rfl⟩ : ∃ k, n = k + 2 := ⟨n - 2, by omega⟩
  clear hk
  obtain ⟨g, cap', hv', hcl1, hcl2, _, _, _⟩ := HROW.out.block (by have := HN.out; omega)
  simp only [Value.slice.injEq] at hv'
  obtain ⟨rfl, hq, rfl⟩ := hv'
  clear hq
  have hkc : k + 2 ≤ cap := by have := HN.out; omega
  unfold maxLen at hcl2
  clear hcl1
  have HT : Hid (st.take (st.length - 2) = st.take k) := by show _ = _; rw [HN.out, Nat.add_sub_cancel]
  rw [valI]
  go_enter Tryz.func36, Tryz.ntmps36
  go_wp2_with (refine wpList_boxG (vs := [ma, mb, mc]) rfl _ rfl rfl ?_)
  intro u1 g1 p1 s1
  go_wp2_with (refine wpList_boxG (vs := [Value.int .i64 4, .int .i64 pn, .int .i64 ak, .int .i64 at_]) rfl _ rfl rfl ?_)
  intro u2 g2 q2 s2
  have p2 := p1.below g2 (by omega)
  have G2 := g1.trans (g2.mono (by omega))
  clear g1 g2 p1
  go_wp2_with (refine wpList_allocG hZ rfl rfl ?_)
  intro u3 g3 r3 s3
  have p3 := p2.below g3 (by omega)
  have q3 := q2.below g3 (by omega)
  have G3 := G2.trans (g3.mono (by omega))
  clear g3 G2 p2 q2
  have c0 : u3.cell? ⟨w.heap.size + 1, 0, none⟩ = some (.int .i64 4) := q3.c 0 _ rfl
  go_wp2_with fail
  clear c0
  rw [← hms] at p3
  obtain ⟨is, his⟩ : ∃ is : List Value, is = [Value.int .i64 4, .int .i64 pn, .int .i64 ak, .int .i64 at_] := ⟨_, rfl⟩
  obtain ⟨zs, hzs⟩ : ∃ zs : List Value, zs = [Value.slice none 0 0, .slice none 0 0, .slice none 0 0] := ⟨_, rfl⟩
  rw [← his] at q3
  rw [← hzs] at r3
  obtain ⟨PM, hPM⟩ : ∃ PM, w.heap.size = PM := ⟨_, rfl⟩
  have hPMb : base ≤ PM := by omega
  have HJ0 : Hid (VarG u3 PM ms ∧ VarG u3 (PM + 1) is ∧ VarG u3 (PM + 2) zs ∧ Below base w u3 ∧ PM + 2 < u3.heap.size ∧ RowZ u3 base (.slice (some ⟨g, 0, none⟩) (k + 2) cap) st) := ⟨hPM ▸ p3, hPM ▸ q3, hPM ▸ r3, G3.mono hb, by omega, HROW.out.below G3 (Nat.le_refl _)⟩
  rw [hPM] at hv0
  clear p3 q3 r3 G3 hb
  try rw [hPM]
  clear hPM s1 s2 s3
  refine wp_region_dagC (R := fun _ _ => True) (Φ := fun i v u => match i with
      | 0 => v = .agg ms.toArray
      | 1 => v = .slice (some ⟨g, 0, none⟩) (k + 2) cap
      | 2 => v = .int .i64 ((k + 2 : Nat) : Int)
      | 3 => v = .int .i64 k
      | 4 => v = .slice (some ⟨g, 0, none⟩) k cap
      | 5 => v = .pointer (some ⟨PM + 1, 1, none⟩)
      | 6 => v = .int .i64 pn
      | 7 => v = .slice (some ⟨g, 0, none⟩) (k + 2) cap
      | 8 => v = .int .i64 ((k + 2 : Nat) : Int)
      | 9 => v = .int .i64 k
      | 10 => v = .pointer (some ⟨g, k, none⟩)
      | 11 => v = .int .i64 (sndI st)
      | 12 => v = .slice (some ⟨g, 0, none⟩) (k + 2) cap
      | 13 => v = .int .i64 ((k + 2 : Nat) : Int)
      | 14 => v = .int .i64 ((k + 1 : Nat) : Int)
      | 15 => v = .pointer (some ⟨g, k + 1, none⟩)
      | 16 => v = .int .i64 (topI st)
      | 17 => v = .int .i64 (twoZ pn (sndI st) (topI st))
      | _ => True)
    (J := fun L a u => DoJ w base PM ms is zs (.slice (some ⟨g, 0, none⟩) (k + 2) cap) st (st.take k) (twoZ pn (sndI st) (topI st)) 18 66 19 67 20 21 L a u) (by kernel_rfl) (by kernel_rfl) (by kernel_rfl) trivial (fun _ _ _ _ _ => trivial) ?_ ?_ ?_ ?_
  · intro i v u u' hr
    exact fun h => h
  · exact ⟨HJ0.out.1.at_ rfl, HJ0.out.2.1.at_ rfl, HJ0.out.2.2.1.at_ rfl, Below.drew HJ0.out.2.2.2.1, HJ0.out.2.2.2.2.1, fun h => absurd h (by decide), fun _ => HJ0.out.2.2.2.2.2.at_ fun _ _ => rfl, fun h => absurd h (by decide), fun h => absurd h (by decide)⟩
  · intro i o ho L ac u hf hR0 hLs hLi hcl hp he hJ K' hK
    have hsz' : ac.tmps.size = 94 := hf.size
    have hLs : L.size = 22 := hLs
    have hbu : base ≤ u.heap.size := by have := hJ.size; omega
    have hPM := hJ.size
    rcases i with _ | _ | _ | _ | _ | _ | _ | _ | _ | _ | _ | _ | _ | _ | _ | _ | _ | _ | _ | _ | _ | _ | i
    · obtain rfl := Option.some.inj ho
      have q3 : ac.tmps.getD 3 undef = .pointer (some ⟨PM, 0, none⟩) := hf.at_ 3 (by kernel_rfl)
      clear hp he
      refine wantedG rfl (wp_loadG Tryz.isAgg28 Tryz.sizeOf28 (vs := ms) _ rfl q3 hm3 hJ.pm.c ?_)
      exact hK _ _ trivial (getD_put_self ac 48 _ (by show _ < ac.tmps.size; omega)) (hJ.keep (Below.refl _ _) hbu _ (by decide) (by decide) (by decide) (by decide) (by decide) (by decide) (by decide))
    · obtain rfl := Option.some.inj ho
      have q1 : ac.tmps.getD 1 undef = .slice (some ⟨g, 0, none⟩) (k + 2) cap := hf.at_ 1 (by kernel_rfl)
      clear hp he
      go_simp
      exact hK _ _ trivial (getD_put_self ac 49 _ (by show _ < ac.tmps.size; omega)) (hJ.keep (Below.refl _ _) hbu _ (by decide) (by decide) (by decide) (by decide) (by decide) (by decide) (by decide))
    · obtain rfl := Option.some.inj ho
      have q8 : ac.tmps.getD 8 undef = .int .i64 ((k + 2 : Nat) : Int) := hf.at_ 8 (by kernel_rfl)
      clear hp he
      go_simp
      exact hK _ _ trivial (getD_put_self ac 50 _ (by show _ < ac.tmps.size; omega)) (hJ.keep (Below.refl _ _) hbu _ (by decide) (by decide) (by decide) (by decide) (by decide) (by decide) (by decide))
    · obtain rfl := Option.some.inj ho
      have q50 : ac.tmps.getD 50 undef = .int .i64 ((k + 2 : Nat) : Int) := hp 2 _ rfl (he _ (Array.mem_of_getElem? (i := 0) rfl) (by kernel_rfl))
      clear hp he
      go_simp
      try go_bits
      exact hK _ _ trivial ((getD_put_self ac 51 _ (by show _ < ac.tmps.size; omega)).trans (by first | rfl | (simp; done) | (congr 1; omega) | (simp; omega))) (hJ.keep (Below.refl _ _) hbu _ (by decide) (by decide) (by decide) (by decide) (by decide) (by decide) (by decide))
    · obtain rfl := Option.some.inj ho
      have q49 : ac.tmps.getD 49 undef = .slice (some ⟨g, 0, none⟩) (k + 2) cap := hp 1 _ rfl (he _ (Array.mem_of_getElem? (i := 0) rfl) (by kernel_rfl))
      have q51 : ac.tmps.getD 51 undef = .int .i64 k := hp 3 _ rfl (he _ (Array.mem_of_getElem? (i := 1) rfl) (by kernel_rfl))
      clear hp he
      have hkk : k ≤ cap := by omega
      go_simp
      exact hK _ _ trivial (getD_put_self ac 52 _ (by show _ < ac.tmps.size; omega)) (hJ.keep (Below.refl _ _) hbu _ (by decide) (by decide) (by decide) (by decide) (by decide) (by decide) (by decide))
    · obtain rfl := Option.some.inj ho
      have q5 : ac.tmps.getD 5 undef = .pointer (some ⟨PM + 1, 0, none⟩) := hf.at_ 5 (by kernel_rfl)
      clear hp he
      go_simp
      exact hK _ _ trivial (getD_put_self ac 53 _ (by show _ < ac.tmps.size; omega)) (hJ.keep (Below.refl _ _) hbu _ (by decide) (by decide) (by decide) (by decide) (by decide) (by decide) (by decide))
    · obtain rfl := Option.some.inj ho
      have q53 : ac.tmps.getD 53 undef = .pointer (some ⟨PM + 1, 1, none⟩) := hp 5 _ rfl (he _ (Array.mem_of_getElem? (i := 0) rfl) (by kernel_rfl))
      clear hp he
      have cp : u.cell? ⟨PM + 1, 1, none⟩ = some (.int .i64 pn) := by have := hJ.pi; rw [his] at this; exact this.c 1 _ rfl
      go_simp
      exact hK _ _ trivial (getD_put_self ac 54 _ (by show _ < ac.tmps.size; omega)) (hJ.keep (Below.refl _ _) hbu _ (by decide) (by decide) (by decide) (by decide) (by decide) (by decide) (by decide))
    · obtain rfl := Option.some.inj ho
      have q1 : ac.tmps.getD 1 undef = .slice (some ⟨g, 0, none⟩) (k + 2) cap := hf.at_ 1 (by kernel_rfl)
      clear hp he
      go_simp
      exact hK _ _ trivial (getD_put_self ac 55 _ (by show _ < ac.tmps.size; omega)) (hJ.keep (Below.refl _ _) hbu _ (by decide) (by decide) (by decide) (by decide) (by decide) (by decide) (by decide))
    · obtain rfl := Option.some.inj ho
      have q8 : ac.tmps.getD 8 undef = .int .i64 ((k + 2 : Nat) : Int) := hf.at_ 8 (by kernel_rfl)
      clear hp he
      go_simp
      exact hK _ _ trivial (getD_put_self ac 56 _ (by show _ < ac.tmps.size; omega)) (hJ.keep (Below.refl _ _) hbu _ (by decide) (by decide) (by decide) (by decide) (by decide) (by decide) (by decide))
    · obtain rfl := Option.some.inj ho
      have q56 : ac.tmps.getD 56 undef = .int .i64 ((k + 2 : Nat) : Int) := hp 8 _ rfl (he _ (Array.mem_of_getElem? (i := 0) rfl) (by kernel_rfl))
      clear hp he
      go_simp
      try go_bits
      exact hK _ _ trivial ((getD_put_self ac 57 _ (by show _ < ac.tmps.size; omega)).trans (by first | rfl | (simp; done) | (congr 1; omega) | (simp; omega))) (hJ.keep (Below.refl _ _) hbu _ (by decide) (by decide) (by decide) (by decide) (by decide) (by decide) (by decide))
    · obtain rfl := Option.some.inj ho
      have q55 : ac.tmps.getD 55 undef = .slice (some ⟨g, 0, none⟩) (k + 2) cap := hp 7 _ rfl (he _ (Array.mem_of_getElem? (i := 0) rfl) (by kernel_rfl))
      have q57 : ac.tmps.getD 57 undef = .int .i64 k := hp 9 _ rfl (he _ (Array.mem_of_getElem? (i := 1) rfl) (by kernel_rfl))
      clear hp he
      have hx1 : (k : Int) < (k : Int) + 1 := by omega
      have hx2 : (k : Int) < (k : Int) + 2 := by omega
      have hx3 : (k : Int) + 1 < (k : Int) + 2 := by omega
      go_simp
      exact hK _ _ trivial (getD_put_self ac 58 _ (by show _ < ac.tmps.size; omega)) (hJ.keep (Below.refl _ _) hbu _ (by decide) (by decide) (by decide) (by decide) (by decide) (by decide) (by decide))
    · obtain rfl := Option.some.inj ho
      have q58 : ac.tmps.getD 58 undef = .pointer (some ⟨g, k, none⟩) := hp 10 _ rfl (he _ (Array.mem_of_getElem? (i := 0) rfl) (by kernel_rfl))
      have n17 : L.getD 17 true = false := hcl.not (i := 17) (j := 11) (by kernel_rfl) hLi
      have n19 : L.getD 19 true = false := hcl.not (i := 19) (j := 17) (by kernel_rfl) n17
      have ch : u.cell? ⟨g, k, none⟩ = some (.int .i64 (sndI st)) := (hJ.row n19).cellAt (snd_at HN.out)
      clear hp he
      go_simp
      exact hK _ _ trivial (getD_put_self ac 59 _ (by show _ < ac.tmps.size; omega)) (hJ.keep (Below.refl _ _) hbu _ (by decide) (by decide) (by decide) (by decide) (by decide) (by decide) (by decide))
    · obtain rfl := Option.some.inj ho
      have q1 : ac.tmps.getD 1 undef = .slice (some ⟨g, 0, none⟩) (k + 2) cap := hf.at_ 1 (by kernel_rfl)
      clear hp he
      go_simp
      exact hK _ _ trivial (getD_put_self ac 60 _ (by show _ < ac.tmps.size; omega)) (hJ.keep (Below.refl _ _) hbu _ (by decide) (by decide) (by decide) (by decide) (by decide) (by decide) (by decide))
    · obtain rfl := Option.some.inj ho
      have q8 : ac.tmps.getD 8 undef = .int .i64 ((k + 2 : Nat) : Int) := hf.at_ 8 (by kernel_rfl)
      clear hp he
      go_simp
      exact hK _ _ trivial (getD_put_self ac 61 _ (by show _ < ac.tmps.size; omega)) (hJ.keep (Below.refl _ _) hbu _ (by decide) (by decide) (by decide) (by decide) (by decide) (by decide) (by decide))
    · obtain rfl := Option.some.inj ho
      have q61 : ac.tmps.getD 61 undef = .int .i64 ((k + 2 : Nat) : Int) := hp 13 _ rfl (he _ (Array.mem_of_getElem? (i := 0) rfl) (by kernel_rfl))
      clear hp he
      go_simp
      try go_bits
      exact hK _ _ trivial ((getD_put_self ac 62 _ (by show _ < ac.tmps.size; omega)).trans (by first | rfl | (simp; done) | (congr 1; omega) | (simp; omega))) (hJ.keep (Below.refl _ _) hbu _ (by decide) (by decide) (by decide) (by decide) (by decide) (by decide) (by decide))
    · obtain rfl := Option.some.inj ho
      have q60 : ac.tmps.getD 60 undef = .slice (some ⟨g, 0, none⟩) (k + 2) cap := hp 12 _ rfl (he _ (Array.mem_of_getElem? (i := 0) rfl) (by kernel_rfl))
      have q62 : ac.tmps.getD 62 undef = .int .i64 ((k + 1 : Nat) : Int) := hp 14 _ rfl (he _ (Array.mem_of_getElem? (i := 1) rfl) (by kernel_rfl))
      clear hp he
      have hx1 : (k : Int) < (k : Int) + 1 := by omega
      have hx2 : (k : Int) < (k : Int) + 2 := by omega
      have hx3 : (k : Int) + 1 < (k : Int) + 2 := by omega
      go_simp
      exact hK _ _ trivial (getD_put_self ac 63 _ (by show _ < ac.tmps.size; omega)) (hJ.keep (Below.refl _ _) hbu _ (by decide) (by decide) (by decide) (by decide) (by decide) (by decide) (by decide))
    · obtain rfl := Option.some.inj ho
      have q63 : ac.tmps.getD 63 undef = .pointer (some ⟨g, k + 1, none⟩) := hp 15 _ rfl (he _ (Array.mem_of_getElem? (i := 0) rfl) (by kernel_rfl))
      have n17 : L.getD 17 true = false := hcl.not (i := 17) (j := 16) (by kernel_rfl) hLi
      have n19 : L.getD 19 true = false := hcl.not (i := 19) (j := 17) (by kernel_rfl) n17
      have ch : u.cell? ⟨g, k + 1, none⟩ = some (.int .i64 (topI st)) := (hJ.row n19).cellAt (top_at HN.out)
      clear hp he
      go_simp
      exact hK _ _ trivial (getD_put_self ac 64 _ (by show _ < ac.tmps.size; omega)) (hJ.keep (Below.refl _ _) hbu _ (by decide) (by decide) (by decide) (by decide) (by decide) (by decide) (by decide))
    · obtain rfl := Option.some.inj ho
      have q54 : ac.tmps.getD 54 undef = .int .i64 pn := hp 6 _ rfl (he _ (Array.mem_of_getElem? (i := 0) rfl) (by kernel_rfl))
      have q59 : ac.tmps.getD 59 undef = .int .i64 (sndI st) := hp 11 _ rfl (he _ (Array.mem_of_getElem? (i := 1) rfl) (by kernel_rfl))
      have q64 : ac.tmps.getD 64 undef = .int .i64 (topI st) := hp 16 _ rfl (he _ (Array.mem_of_getElem? (i := 2) rfl) (by kernel_rfl))
      clear hp he
      go_simp
      refine (l3Two_any pn (sndI st) (topI st) u).mono ?_
      rintro e1 u' ⟨rfl, rfl⟩
      exact hK _ _ trivial (getD_put_self ac 65 _ (by show _ < ac.tmps.size; omega)) (hJ.keep (Below.refl _ _) hbu _ (by decide) (by decide) (by decide) (by decide) (by decide) (by decide) (by decide))
    · obtain rfl := Option.some.inj ho
      have q65 : ac.tmps.getD 65 undef = .int .i64 (twoZ pn (sndI st) (topI st)) := hp 17 _ rfl (he _ (Array.mem_of_getElem? (i := 0) rfl) (by kernel_rfl))
      clear hp he
      have q65b : ac.tmps[65]?.getD undef = .int .i64 (twoZ pn (sndI st) (topI st)) := by rw [← q65]; exact (Array.getD_eq_getD_getElem? ..).symm
      have HZ : Hid (ac.tmps.size = 94) := hsz'
      clear hsz' q65
      go_simp
      have hsz' := HZ.out
      exact hK _ _ trivial trivial (hJ.made ((Below.refl _ _).alloc (Nat.le_refl _) _) hbu (World.cell?_alloc_new _ #[.int .i64 ((twoZ pn (sndI st) (topI st)))] 3 0) (by simp) (by omega) (by decide) (by decide) (by decide) (by decide) (by decide))
    · obtain rfl := Option.some.inj ho
      have q52 : ac.tmps.getD 52 undef = .slice (some ⟨g, 0, none⟩) k cap := hp 4 _ rfl (he _ (Array.mem_of_getElem? (i := 0) rfl) (by kernel_rfl))
      have hAf : L.getD 19 true = false := hLi
      have hBt : L.getD 18 true = true := he _ (Array.mem_of_getElem? (i := 1) rfl) (by kernel_rfl)
      have hSf : L.getD 20 true = false := hcl.not (i := 20) (j := 19) (by kernel_rfl) hLi
      have hTf : L.getD 21 true = false := hcl.not (i := 21) (j := 19) (by kernel_rfl) hLi
      clear hp he
      obtain ⟨b, qB, hb1, hb2, hb3⟩ := hJ.one hBt hAf
      have hrow := (hJ.row hAf).cut k (by have := HN.out; omega)
      refine step_appZ rfl (.tmp 52) (.tmp 66) rfl base q52 qB hrow hb3 hbu (by rw [List.length_take]; have := HN.out; omega) ?_
      intro v' u' hA
      exact hK _ _ trivial trivial (hJ.grew hA hv0 hbu (by omega) hSf hTf (by omega) (by decide) (by decide) (by decide) (by decide))
    · obtain rfl := Option.some.inj ho
      have q6 : ac.tmps.getD 6 undef = .pointer (some ⟨PM + 2, 0, none⟩) := hf.at_ 6 (by kernel_rfl)
      have q48 : ac.tmps.getD 48 undef = .agg ms.toArray := hp 0 _ rfl (he _ (Array.mem_of_getElem? (i := 0) rfl) (by kernel_rfl))
      have hAt : L.getD 19 true = true := he _ (Array.mem_of_getElem? (i := 1) rfl) (by kernel_rfl)
      clear hp he
      have hpr := hJ.pr
      rw [hLi, if_neg (by decide), hzs] at hpr
      have hrun := hpr.run 0 3 (show 0 + 3 ≤ 3 by decide)
      refine wantedG rfl (wp_storeG Tryz.sizeOf28 (vs := ms) (.tmp 6) (.tmp 48) rfl q6 q48 hm3 hone (fun y h1 h2 => hrun.1 y h1 (by omega)) (fun y h1 h2 => hrun.2 y h1 (by omega)) ?_)
      intro u' Lu
      exact hK _ _ trivial trivial (hJ.laid Lu hPMb (by omega) hAt (by decide) (by decide) (by decide))
    · obtain rfl := Option.some.inj ho
      clear hp he
      obtain ⟨vq, hvq⟩ : ∃ v, ac.tmps.getD 67 undef = v := ⟨_, rfl⟩
      have hJ7 := hJ.told (fun _ _ => trivial) (by omega) (by omega) (by decide) (by decide) (by decide) (by decide) (by decide)
      rw [hvq] at hJ7
      go_simp
      exact hK _ _ trivial trivial hJ7
    · exact absurd ho (by simp)
  · intro L ac u hf hR0 hp hJ
    have hA := (hJ.app (hp 19 _ rfl).1).1
    have hT := hJ.tell (hp 21 _ rfl).1
    have hpr := hJ.pr
    rw [if_pos (hp 20 _ rfl).1] at hpr
    have hlow := hJ.low
    obtain ⟨vq, hvq⟩ : ∃ v, ac.tmps.getD 67 undef = v := ⟨_, rfl⟩
    have m7 : ac.tmps.getD 7 undef = vq := hT.trans hvq
    rw [hvq] at hA
    clear hT hvq hp hJ hR0
    obtain ⟨fq, ea, hfv⟩ := act_lit ac 94 hf.size
    have md : ac.defers = [] := hf.defers
    rw [md] at ea
    have m0 := hf.at_ 0 (by kernel_rfl)
    have m1 := hf.at_ 1 (by kernel_rfl)
    have m2 := hf.at_ 2 (by kernel_rfl)
    have m3 := hf.at_ 3 (by kernel_rfl)
    have m4 := hf.at_ 4 (by kernel_rfl)
    have m5 := hf.at_ 5 (by kernel_rfl)
    have m6 := hf.at_ 6 (by kernel_rfl)
    have m8 := hf.at_ 8 (by kernel_rfl)
    have m9 := hf.at_ 9 (by kernel_rfl)
    have m10 := hf.at_ 10 (by kernel_rfl)
    have m11 := hf.at_ 11 (by kernel_rfl)
    have m12 := hf.at_ 12 (by kernel_rfl)
    have m13 := hf.at_ 13 (by kernel_rfl)
    have m14 := hf.at_ 14 (by kernel_rfl)
    have m15 := hf.at_ 15 (by kernel_rfl)
    have m16 := hf.at_ 16 (by kernel_rfl)
    have m17 := hf.at_ 17 (by kernel_rfl)
    have m18 := hf.at_ 18 (by kernel_rfl)
    have m19 := hf.at_ 19 (by kernel_rfl)
    have m20 := hf.at_ 20 (by kernel_rfl)
    have m21 := hf.at_ 21 (by kernel_rfl)
    have m22 := hf.at_ 22 (by kernel_rfl)
    have m23 := hf.at_ 23 (by kernel_rfl)
    have m24 := hf.at_ 24 (by kernel_rfl)
    have m25 := hf.at_ 25 (by kernel_rfl)
    have m26 := hf.at_ 26 (by kernel_rfl)
    have m27 := hf.at_ 27 (by kernel_rfl)
    have m28 := hf.at_ 28 (by kernel_rfl)
    have m29 := hf.at_ 29 (by kernel_rfl)
    have m30 := hf.at_ 30 (by kernel_rfl)
    have m31 := hf.at_ 31 (by kernel_rfl)
    have m32 := hf.at_ 32 (by kernel_rfl)
    have m33 := hf.at_ 33 (by kernel_rfl)
    have m34 := hf.at_ 34 (by kernel_rfl)
    have m35 := hf.at_ 35 (by kernel_rfl)
    have m36 := hf.at_ 36 (by kernel_rfl)
    have m37 := hf.at_ 37 (by kernel_rfl)
    have m38 := hf.at_ 38 (by kernel_rfl)
    have m39 := hf.at_ 39 (by kernel_rfl)
    have m40 := hf.at_ 40 (by kernel_rfl)
    have m41 := hf.at_ 41 (by kernel_rfl)
    have m42 := hf.at_ 42 (by kernel_rfl)
    have m43 := hf.at_ 43 (by kernel_rfl)
    have m44 := hf.at_ 44 (by kernel_rfl)
    have m45 := hf.at_ 45 (by kernel_rfl)
    have m46 := hf.at_ 46 (by kernel_rfl)
    have m47 := hf.at_ 47 (by kernel_rfl)
    have m68 := hf.at_ 68 (by kernel_rfl)
    have m69 := hf.at_ 69 (by kernel_rfl)
    have m70 := hf.at_ 70 (by kernel_rfl)
    have m71 := hf.at_ 71 (by kernel_rfl)
    have m72 := hf.at_ 72 (by kernel_rfl)
    have m73 := hf.at_ 73 (by kernel_rfl)
    have m74 := hf.at_ 74 (by kernel_rfl)
    have m75 := hf.at_ 75 (by kernel_rfl)
    have m76 := hf.at_ 76 (by kernel_rfl)
    have m77 := hf.at_ 77 (by kernel_rfl)
    have m78 := hf.at_ 78 (by kernel_rfl)
    have m79 := hf.at_ 79 (by kernel_rfl)
    have m80 := hf.at_ 80 (by kernel_rfl)
    have m81 := hf.at_ 81 (by kernel_rfl)
    have m82 := hf.at_ 82 (by kernel_rfl)
    have m83 := hf.at_ 83 (by kernel_rfl)
    have m84 := hf.at_ 84 (by kernel_rfl)
    have m85 := hf.at_ 85 (by kernel_rfl)
    have m86 := hf.at_ 86 (by kernel_rfl)
    have m87 := hf.at_ 87 (by kernel_rfl)
    have m88 := hf.at_ 88 (by kernel_rfl)
    have m89 := hf.at_ 89 (by kernel_rfl)
    have m90 := hf.at_ 90 (by kernel_rfl)
    have m91 := hf.at_ 91 (by kernel_rfl)
    have m92 := hf.at_ 92 (by kernel_rfl)
    have m93 := hf.at_ 93 (by kernel_rfl)
    rw [← hfv] at m0 m1 m2 m3 m4 m5 m6 m8 m9 m10 m11 m12 m13 m14 m15 m16 m17 m18 m19 m20 m21 m22 m23 m24 m25 m26 m27 m28 m29 m30 m31 m32 m33 m34 m35 m36 m37 m38 m39 m40 m41 m42 m43 m44 m45 m46 m47 m68 m69 m70 m71 m72 m73 m74 m75 m76 m77 m78 m79 m80 m81 m82 m83 m84 m85 m86 m87 m88 m89 m90 m91 m92 m93 m7
    simp only [Array.getD_eq_getD_getElem?, List.getElem?_toArray, List.getElem?_cons_succ, List.getElem?_cons_zero, Option.getD_some] at m0 m1 m2 m3 m4 m5 m6 m8 m9 m10 m11 m12 m13 m14 m15 m16 m17 m18 m19 m20 m21 m22 m23 m24 m25 m26 m27 m28 m29 m30 m31 m32 m33 m34 m35 m36 m37 m38 m39 m40 m41 m42 m43 m44 m45 m46 m47 m68 m69 m70 m71 m72 m73 m74 m75 m76 m77 m78 m79 m80 m81 m82 m83 m84 m85 m86 m87 m88 m89 m90 m91 m92 m93
    simp only [List.range, List.range.loop, List.map_cons, List.map_nil, m0, m1, m2, m3, m4, m5, m6, m8, m9, m10, m11, m12, m13, m14, m15, m16, m17, m18, m19, m20, m21, m22, m23, m24, m25, m26, m27, m28, m29, m30, m31, m32, m33, m34, m35, m36, m37, m38, m39, m40, m41, m42, m43, m44, m45, m46, m47, m68, m69, m70, m71, m72, m73, m74, m75, m76, m77, m78, m79, m80, m81, m82, m83, m84, m85, m86, m87, m88, m89, m90, m91, m92, m93, m7] at ea
    subst ea
    clear m0 m1 m2 m3 m4 m5 m6 m8 m9 m10 m11 m12 m13 m14 m15 m16 m17 m18 m19 m20 m21 m22 m23 m24 m25 m26 m27 m28 m29 m30 m31 m32 m33 m34 m35 m36 m37 m38 m39 m40 m41 m42 m43 m44 m45 m46 m47 m68 m69 m70 m71 m72 m73 m74 m75 m76 m77 m78 m79 m80 m81 m82 m83 m84 m85 m86 m87 m88 m89 m90 m91 m92 m93 m7 hfv md hf
    go_wp2
    refine bodyPost_ret (v := .tuple #[.agg ms.toArray, vq]) ?_ rfl ⟨vq, by rw [hms], by rw [HT.out]; exact hA, hlow⟩
    simp [results, Tryz.results36, go_sem]
    rw [hms] at hpr ⊢
    have hpr : VarG u (PM + 1 + 1) [ma, mb, mc] := hpr
    have c0 := hpr.c 0 _ rfl
    have c1 := hpr.c 1 _ rfl
    have c2 := hpr.c 2 _ rfl
    simp [c0, c1, c2]

set_option maxHeartbeats 8000000 in
theorem l5Do_not (w : World) (base : Nat) (ma mb mc : Value) (ad : Option Go.Addr) (n cap : Nat) (st : List Int) (p : InsD) (hop : p.op = 5) (hrow : RowZ w base (.slice ad n cap) st) (hn : st.length = n) (hb : base ≤ w.heap.size) (hl : st.length + 1 ≤ 16777216) (h1 : ∀ v ∈ [ma, mb, mc], v.oneCell' = true) (hk : 1 ≤ n) :
    Calls Tryz.prog 36 #[.agg #[ma, mb, mc], .slice ad n cap, p.val] w fun e w' => ∃ v', e = .returned (.tuple #[.agg #[ma, mb, mc], v']) ∧ RowZ w' base v' (st.take (st.length - 1) ++ [isZ (!(topI st != 0))]) ∧ Below base w w' := by
  obtain ⟨op, pn, ak, at_⟩ := p
  simp only at hop
  subst hop
  have hZ := (zero_of_info (P := Tryz.prog) zero_memD).1
  have hv0 : ∀ k, (Value.slice ad n cap).ownBlock = some k → base ≤ k ∧ k < w.heap.size := hrow.lt
  obtain ⟨ms, hms⟩ : ∃ ms : List Value, ms = [ma, mb, mc] := ⟨_, rfl⟩
  have hone : ∀ v ∈ ms, v.oneCell' = true := by rw [hms]; exact h1
  have hm3 : ms.length = 3 := by rw [hms]; rfl
  have HROW : Hid (RowZ w base (.slice ad n cap) st) := hrow
  have HN : Hid (st.length = n) := hn
  clear hrow h1 hn
  obtain ⟨k, rfl⟩ : ∃ k, n = k + 1 := ⟨n - 1, by omega⟩
  clear hk
  obtain ⟨g, cap', hv', hcl1, hcl2, _, _, _⟩ := HROW.out.block (by have := HN.out; omega)
  simp only [Value.slice.injEq] at hv'
  obtain ⟨rfl, hq, rfl⟩ := hv'
  clear hq
  have hkc : k + 1 ≤ cap := by have := HN.out; omega
  unfold maxLen at hcl2
  clear hcl1
  have HT : Hid (st.take (st.length - 1) = st.take k) := by show _ = _; rw [HN.out, Nat.add_sub_cancel]
  rw [valI]
  go_enter Tryz.func36, Tryz.ntmps36
  go_wp2_with (refine wpList_boxG (vs := [ma, mb, mc]) rfl _ rfl rfl ?_)
  intro u1 g1 p1 s1
  go_wp2_with (refine wpList_boxG (vs := [Value.int .i64 5, .int .i64 pn, .int .i64 ak, .int .i64 at_]) rfl _ rfl rfl ?_)
  intro u2 g2 q2 s2
  have p2 := p1.below g2 (by omega)
  have G2 := g1.trans (g2.mono (by omega))
  clear g1 g2 p1
  go_wp2_with (refine wpList_allocG hZ rfl rfl ?_)
  intro u3 g3 r3 s3
  have p3 := p2.below g3 (by omega)
  have q3 := q2.below g3 (by omega)
  have G3 := G2.trans (g3.mono (by omega))
  clear g3 G2 p2 q2
  have c0 : u3.cell? ⟨w.heap.size + 1, 0, none⟩ = some (.int .i64 5) := q3.c 0 _ rfl
  go_wp2_with fail
  clear c0
  rw [← hms] at p3
  obtain ⟨is, his⟩ : ∃ is : List Value, is = [Value.int .i64 5, .int .i64 pn, .int .i64 ak, .int .i64 at_] := ⟨_, rfl⟩
  obtain ⟨zs, hzs⟩ : ∃ zs : List Value, zs = [Value.slice none 0 0, .slice none 0 0, .slice none 0 0] := ⟨_, rfl⟩
  rw [← his] at q3
  rw [← hzs] at r3
  obtain ⟨PM, hPM⟩ : ∃ PM, w.heap.size = PM := ⟨_, rfl⟩
  have hPMb : base ≤ PM := by omega
  have HJ0 : Hid (VarG u3 PM ms ∧ VarG u3 (PM + 1) is ∧ VarG u3 (PM + 2) zs ∧ Below base w u3 ∧ PM + 2 < u3.heap.size ∧ RowZ u3 base (.slice (some ⟨g, 0, none⟩) (k + 1) cap) st) := ⟨hPM ▸ p3, hPM ▸ q3, hPM ▸ r3, G3.mono hb, by omega, HROW.out.below G3 (Nat.le_refl _)⟩
  rw [hPM] at hv0
  clear p3 q3 r3 G3 hb
  try rw [hPM]
  clear hPM s1 s2 s3
  refine wp_region_dagC (R := fun _ _ => True) (Φ := fun i v u => match i with
      | 0 => v = .agg ms.toArray
      | 1 => v = .slice (some ⟨g, 0, none⟩) (k + 1) cap
      | 2 => v = .int .i64 ((k + 1 : Nat) : Int)
      | 3 => v = .int .i64 k
      | 4 => v = .slice (some ⟨g, 0, none⟩) k cap
      | 5 => v = .slice (some ⟨g, 0, none⟩) (k + 1) cap
      | 6 => v = .int .i64 ((k + 1 : Nat) : Int)
      | 7 => v = .int .i64 k
      | 8 => v = .pointer (some ⟨g, k, none⟩)
      | 9 => v = .int .i64 (topI st)
      | 10 => v = .bool (topI st != 0)
      | 11 => v = .bool (!(topI st != 0))
      | 12 => v = .int .i64 (isZ (!(topI st != 0)))
      | _ => True)
    (J := fun L a u => DoJ w base PM ms is zs (.slice (some ⟨g, 0, none⟩) (k + 1) cap) st (st.take k) (isZ (!(topI st != 0))) 13 83 14 84 15 16 L a u) (by kernel_rfl) (by kernel_rfl) (by kernel_rfl) trivial (fun _ _ _ _ _ => trivial) ?_ ?_ ?_ ?_
  · intro i v u u' hr
    exact fun h => h
  · exact ⟨HJ0.out.1.at_ rfl, HJ0.out.2.1.at_ rfl, HJ0.out.2.2.1.at_ rfl, Below.drew HJ0.out.2.2.2.1, HJ0.out.2.2.2.2.1, fun h => absurd h (by decide), fun _ => HJ0.out.2.2.2.2.2.at_ fun _ _ => rfl, fun h => absurd h (by decide), fun h => absurd h (by decide)⟩
  · intro i o ho L ac u hf hR0 hLs hLi hcl hp he hJ K' hK
    have hsz' : ac.tmps.size = 94 := hf.size
    have hLs : L.size = 17 := hLs
    have hbu : base ≤ u.heap.size := by have := hJ.size; omega
    have hPM := hJ.size
    rcases i with _ | _ | _ | _ | _ | _ | _ | _ | _ | _ | _ | _ | _ | _ | _ | _ | _ | i
    · obtain rfl := Option.some.inj ho
      have q3 : ac.tmps.getD 3 undef = .pointer (some ⟨PM, 0, none⟩) := hf.at_ 3 (by kernel_rfl)
      clear hp he
      refine wantedG rfl (wp_loadG Tryz.isAgg28 Tryz.sizeOf28 (vs := ms) _ rfl q3 hm3 hJ.pm.c ?_)
      exact hK _ _ trivial (getD_put_self ac 70 _ (by show _ < ac.tmps.size; omega)) (hJ.keep (Below.refl _ _) hbu _ (by decide) (by decide) (by decide) (by decide) (by decide) (by decide) (by decide))
    · obtain rfl := Option.some.inj ho
      have q1 : ac.tmps.getD 1 undef = .slice (some ⟨g, 0, none⟩) (k + 1) cap := hf.at_ 1 (by kernel_rfl)
      clear hp he
      go_simp
      exact hK _ _ trivial (getD_put_self ac 71 _ (by show _ < ac.tmps.size; omega)) (hJ.keep (Below.refl _ _) hbu _ (by decide) (by decide) (by decide) (by decide) (by decide) (by decide) (by decide))
    · obtain rfl := Option.some.inj ho
      have q8 : ac.tmps.getD 8 undef = .int .i64 ((k + 1 : Nat) : Int) := hf.at_ 8 (by kernel_rfl)
      clear hp he
      go_simp
      exact hK _ _ trivial (getD_put_self ac 72 _ (by show _ < ac.tmps.size; omega)) (hJ.keep (Below.refl _ _) hbu _ (by decide) (by decide) (by decide) (by decide) (by decide) (by decide) (by decide))
    · obtain rfl := Option.some.inj ho
      have q72 : ac.tmps.getD 72 undef = .int .i64 ((k + 1 : Nat) : Int) := hp 2 _ rfl (he _ (Array.mem_of_getElem? (i := 0) rfl) (by kernel_rfl))
      clear hp he
      go_simp
      try go_bits
      exact hK _ _ trivial ((getD_put_self ac 73 _ (by show _ < ac.tmps.size; omega)).trans (by first | rfl | (simp; done) | (congr 1; omega) | (simp; omega))) (hJ.keep (Below.refl _ _) hbu _ (by decide) (by decide) (by decide) (by decide) (by decide) (by decide) (by decide))
    · obtain rfl := Option.some.inj ho
      have q71 : ac.tmps.getD 71 undef = .slice (some ⟨g, 0, none⟩) (k + 1) cap := hp 1 _ rfl (he _ (Array.mem_of_getElem? (i := 0) rfl) (by kernel_rfl))
      have q73 : ac.tmps.getD 73 undef = .int .i64 k := hp 3 _ rfl (he _ (Array.mem_of_getElem? (i := 1) rfl) (by kernel_rfl))
      clear hp he
      have hkk : k ≤ cap := by omega
      go_simp
      exact hK _ _ trivial (getD_put_self ac 74 _ (by show _ < ac.tmps.size; omega)) (hJ.keep (Below.refl _ _) hbu _ (by decide) (by decide) (by decide) (by decide) (by decide) (by decide) (by decide))
    · obtain rfl := Option.some.inj ho
      have q1 : ac.tmps.getD 1 undef = .slice (some ⟨g, 0, none⟩) (k + 1) cap := hf.at_ 1 (by kernel_rfl)
      clear hp he
      go_simp
      exact hK _ _ trivial (getD_put_self ac 75 _ (by show _ < ac.tmps.size; omega)) (hJ.keep (Below.refl _ _) hbu _ (by decide) (by decide) (by decide) (by decide) (by decide) (by decide) (by decide))
    · obtain rfl := Option.some.inj ho
      have q8 : ac.tmps.getD 8 undef = .int .i64 ((k + 1 : Nat) : Int) := hf.at_ 8 (by kernel_rfl)
      clear hp he
      go_simp
      exact hK _ _ trivial (getD_put_self ac 76 _ (by show _ < ac.tmps.size; omega)) (hJ.keep (Below.refl _ _) hbu _ (by decide) (by decide) (by decide) (by decide) (by decide) (by decide) (by decide))
    · obtain rfl := Option.some.inj ho
      have q76 : ac.tmps.getD 76 undef = .int .i64 ((k + 1 : Nat) : Int) := hp 6 _ rfl (he _ (Array.mem_of_getElem? (i := 0) rfl) (by kernel_rfl))
      clear hp he
      go_simp
      try go_bits
      exact hK _ _ trivial ((getD_put_self ac 77 _ (by show _ < ac.tmps.size; omega)).trans (by first | rfl | (simp; done) | (congr 1; omega) | (simp; omega))) (hJ.keep (Below.refl _ _) hbu _ (by decide) (by decide) (by decide) (by decide) (by decide) (by decide) (by decide))
    · obtain rfl := Option.some.inj ho
      have q75 : ac.tmps.getD 75 undef = .slice (some ⟨g, 0, none⟩) (k + 1) cap := hp 5 _ rfl (he _ (Array.mem_of_getElem? (i := 0) rfl) (by kernel_rfl))
      have q77 : ac.tmps.getD 77 undef = .int .i64 k := hp 7 _ rfl (he _ (Array.mem_of_getElem? (i := 1) rfl) (by kernel_rfl))
      clear hp he
      have hx1 : (k : Int) < (k : Int) + 1 := by omega
      have hx2 : (k : Int) < (k : Int) + 2 := by omega
      have hx3 : (k : Int) + 1 < (k : Int) + 2 := by omega
      go_simp
      exact hK _ _ trivial (getD_put_self ac 78 _ (by show _ < ac.tmps.size; omega)) (hJ.keep (Below.refl _ _) hbu _ (by decide) (by decide) (by decide) (by decide) (by decide) (by decide) (by decide))
    · obtain rfl := Option.some.inj ho
      have q78 : ac.tmps.getD 78 undef = .pointer (some ⟨g, k, none⟩) := hp 8 _ rfl (he _ (Array.mem_of_getElem? (i := 0) rfl) (by kernel_rfl))
      have n10 : L.getD 10 true = false := hcl.not (i := 10) (j := 9) (by kernel_rfl) hLi
      have n12 : L.getD 12 true = false := hcl.not (i := 12) (j := 10) (by kernel_rfl) n10
      have n14 : L.getD 14 true = false := hcl.not (i := 14) (j := 12) (by kernel_rfl) n12
      have ch : u.cell? ⟨g, k, none⟩ = some (.int .i64 (topI st)) := (hJ.row n14).cellAt (top_at HN.out)
      clear hp he
      go_simp
      exact hK _ _ trivial (getD_put_self ac 79 _ (by show _ < ac.tmps.size; omega)) (hJ.keep (Below.refl _ _) hbu _ (by decide) (by decide) (by decide) (by decide) (by decide) (by decide) (by decide))
    · obtain rfl := Option.some.inj ho
      have q79 : ac.tmps.getD 79 undef = .int .i64 (topI st) := hp 9 _ rfl (he _ (Array.mem_of_getElem? (i := 0) rfl) (by kernel_rfl))
      clear hp he
      go_simp
      refine (sOn_any (topI st) u).mono ?_
      rintro e1 u' ⟨rfl, rfl⟩
      exact hK _ _ trivial (getD_put_self ac 80 _ (by show _ < ac.tmps.size; omega)) (hJ.keep (Below.refl _ _) hbu _ (by decide) (by decide) (by decide) (by decide) (by decide) (by decide) (by decide))
    · obtain rfl := Option.some.inj ho
      have q80 : ac.tmps.getD 80 undef = .bool (topI st != 0) := hp 10 _ rfl (he _ (Array.mem_of_getElem? (i := 0) rfl) (by kernel_rfl))
      clear hp he
      go_simp
      exact hK _ _ trivial (getD_put_self ac 81 _ (by show _ < ac.tmps.size; omega)) (hJ.keep (Below.refl _ _) hbu _ (by decide) (by decide) (by decide) (by decide) (by decide) (by decide) (by decide))
    · obtain rfl := Option.some.inj ho
      have q81 : ac.tmps.getD 81 undef = .bool (!(topI st != 0)) := hp 11 _ rfl (he _ (Array.mem_of_getElem? (i := 0) rfl) (by kernel_rfl))
      clear hp he
      go_simp
      refine (sIs_any (!(topI st != 0)) u).mono ?_
      rintro e1 u' ⟨rfl, rfl⟩
      exact hK _ _ trivial (getD_put_self ac 82 _ (by show _ < ac.tmps.size; omega)) (hJ.keep (Below.refl _ _) hbu _ (by decide) (by decide) (by decide) (by decide) (by decide) (by decide) (by decide))
    · obtain rfl := Option.some.inj ho
      have q82 : ac.tmps.getD 82 undef = .int .i64 (isZ (!(topI st != 0))) := hp 12 _ rfl (he _ (Array.mem_of_getElem? (i := 0) rfl) (by kernel_rfl))
      clear hp he
      have q82b : ac.tmps[82]?.getD undef = .int .i64 (isZ (!(topI st != 0))) := by rw [← q82]; exact (Array.getD_eq_getD_getElem? ..).symm
      have HZ : Hid (ac.tmps.size = 94) := hsz'
      clear hsz' q82
      go_simp
      have hsz' := HZ.out
      exact hK _ _ trivial trivial (hJ.made ((Below.refl _ _).alloc (Nat.le_refl _) _) hbu (World.cell?_alloc_new _ #[.int .i64 ((isZ (!(topI st != 0))))] 3 0) (by simp) (by omega) (by decide) (by decide) (by decide) (by decide) (by decide))
    · obtain rfl := Option.some.inj ho
      have q74 : ac.tmps.getD 74 undef = .slice (some ⟨g, 0, none⟩) k cap := hp 4 _ rfl (he _ (Array.mem_of_getElem? (i := 0) rfl) (by kernel_rfl))
      have hAf : L.getD 14 true = false := hLi
      have hBt : L.getD 13 true = true := he _ (Array.mem_of_getElem? (i := 1) rfl) (by kernel_rfl)
      have hSf : L.getD 15 true = false := hcl.not (i := 15) (j := 14) (by kernel_rfl) hLi
      have hTf : L.getD 16 true = false := hcl.not (i := 16) (j := 14) (by kernel_rfl) hLi
      clear hp he
      obtain ⟨b, qB, hb1, hb2, hb3⟩ := hJ.one hBt hAf
      have hrow := (hJ.row hAf).cut k (by have := HN.out; omega)
      refine step_appZ rfl (.tmp 74) (.tmp 83) rfl base q74 qB hrow hb3 hbu (by rw [List.length_take]; have := HN.out; omega) ?_
      intro v' u' hA
      exact hK _ _ trivial trivial (hJ.grew hA hv0 hbu (by omega) hSf hTf (by omega) (by decide) (by decide) (by decide) (by decide))
    · obtain rfl := Option.some.inj ho
      have q6 : ac.tmps.getD 6 undef = .pointer (some ⟨PM + 2, 0, none⟩) := hf.at_ 6 (by kernel_rfl)
      have q70 : ac.tmps.getD 70 undef = .agg ms.toArray := hp 0 _ rfl (he _ (Array.mem_of_getElem? (i := 0) rfl) (by kernel_rfl))
      have hAt : L.getD 14 true = true := he _ (Array.mem_of_getElem? (i := 1) rfl) (by kernel_rfl)
      clear hp he
      have hpr := hJ.pr
      rw [hLi, if_neg (by decide), hzs] at hpr
      have hrun := hpr.run 0 3 (show 0 + 3 ≤ 3 by decide)
      refine wantedG rfl (wp_storeG Tryz.sizeOf28 (vs := ms) (.tmp 6) (.tmp 70) rfl q6 q70 hm3 hone (fun y h1 h2 => hrun.1 y h1 (by omega)) (fun y h1 h2 => hrun.2 y h1 (by omega)) ?_)
      intro u' Lu
      exact hK _ _ trivial trivial (hJ.laid Lu hPMb (by omega) hAt (by decide) (by decide) (by decide))
    · obtain rfl := Option.some.inj ho
      clear hp he
      obtain ⟨vq, hvq⟩ : ∃ v, ac.tmps.getD 84 undef = v := ⟨_, rfl⟩
      have hJ7 := hJ.told (fun _ _ => trivial) (by omega) (by omega) (by decide) (by decide) (by decide) (by decide) (by decide)
      rw [hvq] at hJ7
      go_simp
      exact hK _ _ trivial trivial hJ7
    · exact absurd ho (by simp)
  · intro L ac u hf hR0 hp hJ
    have hA := (hJ.app (hp 14 _ rfl).1).1
    have hT := hJ.tell (hp 16 _ rfl).1
    have hpr := hJ.pr
    rw [if_pos (hp 15 _ rfl).1] at hpr
    have hlow := hJ.low
    obtain ⟨vq, hvq⟩ : ∃ v, ac.tmps.getD 84 undef = v := ⟨_, rfl⟩
    have m7 : ac.tmps.getD 7 undef = vq := hT.trans hvq
    rw [hvq] at hA
    clear hT hvq hp hJ hR0
    obtain ⟨fq, ea, hfv⟩ := act_lit ac 94 hf.size
    have md : ac.defers = [] := hf.defers
    rw [md] at ea
    have m0 := hf.at_ 0 (by kernel_rfl)
    have m1 := hf.at_ 1 (by kernel_rfl)
    have m2 := hf.at_ 2 (by kernel_rfl)
    have m3 := hf.at_ 3 (by kernel_rfl)
    have m4 := hf.at_ 4 (by kernel_rfl)
    have m5 := hf.at_ 5 (by kernel_rfl)
    have m6 := hf.at_ 6 (by kernel_rfl)
    have m8 := hf.at_ 8 (by kernel_rfl)
    have m9 := hf.at_ 9 (by kernel_rfl)
    have m10 := hf.at_ 10 (by kernel_rfl)
    have m11 := hf.at_ 11 (by kernel_rfl)
    have m12 := hf.at_ 12 (by kernel_rfl)
    have m13 := hf.at_ 13 (by kernel_rfl)
    have m14 := hf.at_ 14 (by kernel_rfl)
    have m15 := hf.at_ 15 (by kernel_rfl)
    have m16 := hf.at_ 16 (by kernel_rfl)
    have m17 := hf.at_ 17 (by kernel_rfl)
    have m18 := hf.at_ 18 (by kernel_rfl)
    have m19 := hf.at_ 19 (by kernel_rfl)
    have m20 := hf.at_ 20 (by kernel_rfl)
    have m21 := hf.at_ 21 (by kernel_rfl)
    have m22 := hf.at_ 22 (by kernel_rfl)
    have m23 := hf.at_ 23 (by kernel_rfl)
    have m24 := hf.at_ 24 (by kernel_rfl)
    have m25 := hf.at_ 25 (by kernel_rfl)
    have m26 := hf.at_ 26 (by kernel_rfl)
    have m27 := hf.at_ 27 (by kernel_rfl)
    have m28 := hf.at_ 28 (by kernel_rfl)
    have m29 := hf.at_ 29 (by kernel_rfl)
    have m30 := hf.at_ 30 (by kernel_rfl)
    have m31 := hf.at_ 31 (by kernel_rfl)
    have m32 := hf.at_ 32 (by kernel_rfl)
    have m33 := hf.at_ 33 (by kernel_rfl)
    have m34 := hf.at_ 34 (by kernel_rfl)
    have m35 := hf.at_ 35 (by kernel_rfl)
    have m36 := hf.at_ 36 (by kernel_rfl)
    have m37 := hf.at_ 37 (by kernel_rfl)
    have m38 := hf.at_ 38 (by kernel_rfl)
    have m39 := hf.at_ 39 (by kernel_rfl)
    have m40 := hf.at_ 40 (by kernel_rfl)
    have m41 := hf.at_ 41 (by kernel_rfl)
    have m42 := hf.at_ 42 (by kernel_rfl)
    have m43 := hf.at_ 43 (by kernel_rfl)
    have m44 := hf.at_ 44 (by kernel_rfl)
    have m45 := hf.at_ 45 (by kernel_rfl)
    have m46 := hf.at_ 46 (by kernel_rfl)
    have m47 := hf.at_ 47 (by kernel_rfl)
    have m48 := hf.at_ 48 (by kernel_rfl)
    have m49 := hf.at_ 49 (by kernel_rfl)
    have m50 := hf.at_ 50 (by kernel_rfl)
    have m51 := hf.at_ 51 (by kernel_rfl)
    have m52 := hf.at_ 52 (by kernel_rfl)
    have m53 := hf.at_ 53 (by kernel_rfl)
    have m54 := hf.at_ 54 (by kernel_rfl)
    have m55 := hf.at_ 55 (by kernel_rfl)
    have m56 := hf.at_ 56 (by kernel_rfl)
    have m57 := hf.at_ 57 (by kernel_rfl)
    have m58 := hf.at_ 58 (by kernel_rfl)
    have m59 := hf.at_ 59 (by kernel_rfl)
    have m60 := hf.at_ 60 (by kernel_rfl)
    have m61 := hf.at_ 61 (by kernel_rfl)
    have m62 := hf.at_ 62 (by kernel_rfl)
    have m63 := hf.at_ 63 (by kernel_rfl)
    have m64 := hf.at_ 64 (by kernel_rfl)
    have m65 := hf.at_ 65 (by kernel_rfl)
    have m66 := hf.at_ 66 (by kernel_rfl)
    have m67 := hf.at_ 67 (by kernel_rfl)
    have m68 := hf.at_ 68 (by kernel_rfl)
    have m69 := hf.at_ 69 (by kernel_rfl)
    have m85 := hf.at_ 85 (by kernel_rfl)
    have m86 := hf.at_ 86 (by kernel_rfl)
    have m87 := hf.at_ 87 (by kernel_rfl)
    have m88 := hf.at_ 88 (by kernel_rfl)
    have m89 := hf.at_ 89 (by kernel_rfl)
    have m90 := hf.at_ 90 (by kernel_rfl)
    have m91 := hf.at_ 91 (by kernel_rfl)
    have m92 := hf.at_ 92 (by kernel_rfl)
    have m93 := hf.at_ 93 (by kernel_rfl)
    rw [← hfv] at m0 m1 m2 m3 m4 m5 m6 m8 m9 m10 m11 m12 m13 m14 m15 m16 m17 m18 m19 m20 m21 m22 m23 m24 m25 m26 m27 m28 m29 m30 m31 m32 m33 m34 m35 m36 m37 m38 m39 m40 m41 m42 m43 m44 m45 m46 m47 m48 m49 m50 m51 m52 m53 m54 m55 m56 m57 m58 m59 m60 m61 m62 m63 m64 m65 m66 m67 m68 m69 m85 m86 m87 m88 m89 m90 m91 m92 m93 m7
    simp only [Array.getD_eq_getD_getElem?, List.getElem?_toArray, List.getElem?_cons_succ, List.getElem?_cons_zero, Option.getD_some] at m0 m1 m2 m3 m4 m5 m6 m8 m9 m10 m11 m12 m13 m14 m15 m16 m17 m18 m19 m20 m21 m22 m23 m24 m25 m26 m27 m28 m29 m30 m31 m32 m33 m34 m35 m36 m37 m38 m39 m40 m41 m42 m43 m44 m45 m46 m47 m48 m49 m50 m51 m52 m53 m54 m55 m56 m57 m58 m59 m60 m61 m62 m63 m64 m65 m66 m67 m68 m69 m85 m86 m87 m88 m89 m90 m91 m92 m93
    simp only [List.range, List.range.loop, List.map_cons, List.map_nil, m0, m1, m2, m3, m4, m5, m6, m8, m9, m10, m11, m12, m13, m14, m15, m16, m17, m18, m19, m20, m21, m22, m23, m24, m25, m26, m27, m28, m29, m30, m31, m32, m33, m34, m35, m36, m37, m38, m39, m40, m41, m42, m43, m44, m45, m46, m47, m48, m49, m50, m51, m52, m53, m54, m55, m56, m57, m58, m59, m60, m61, m62, m63, m64, m65, m66, m67, m68, m69, m85, m86, m87, m88, m89, m90, m91, m92, m93, m7] at ea
    subst ea
    clear m0 m1 m2 m3 m4 m5 m6 m8 m9 m10 m11 m12 m13 m14 m15 m16 m17 m18 m19 m20 m21 m22 m23 m24 m25 m26 m27 m28 m29 m30 m31 m32 m33 m34 m35 m36 m37 m38 m39 m40 m41 m42 m43 m44 m45 m46 m47 m48 m49 m50 m51 m52 m53 m54 m55 m56 m57 m58 m59 m60 m61 m62 m63 m64 m65 m66 m67 m68 m69 m85 m86 m87 m88 m89 m90 m91 m92 m93 m7 hfv md hf
    go_wp2
    refine bodyPost_ret (v := .tuple #[.agg ms.toArray, vq]) ?_ rfl ⟨vq, by rw [hms], by rw [HT.out]; exact hA, hlow⟩
    simp [results, Tryz.results36, go_sem]
    rw [hms] at hpr ⊢
    have hpr : VarG u (PM + 1 + 1) [ma, mb, mc] := hpr
    have c0 := hpr.c 0 _ rfl
    have c1 := hpr.c 1 _ rfl
    have c2 := hpr.c 2 _ rfl
    simp [c0, c1, c2]
end Go.Proofs.YtdhpbiplkjpiiaaGreatDoor
