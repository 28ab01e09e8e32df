/-
  The program's drives: the closure, IndexFunc, ContainsFunc.
-/
import Derived.Test.YtaoiookfmgpmkaaGreatDoorNetImplA
import Derived.Test.YtaoiookfmgpmkaaGreatDoorNetStruct
import Derived.Test.YtaoiookfmgpmkaaGreatDoorNetOkD
import Derived.Laws.EntriesVeiled
namespace Go.Proofs.YtaoiookfmgpmkaaGreatDoor
open Go.ChangeShapes Go.WideShapes Go.ChangeAt Go.RowKit
set_option linter.unusedVariables false
set_option linter.unusedSimpArgs false
set_option maxRecDepth 100000

theorem GR.take {α : Type} {E : Elem α} {w : World} {lo hi : Nat} {ad : Option Go.Addr} {len cap : Nat} {xs : List α} (h : GR E w lo hi (.slice ad len cap) xs) (k : Nat) (hk : k ≤ xs.length) : GR E w lo hi (.slice ad k cap) (xs.take k) := by
  obtain ⟨ad', cap', hv, h1, h2, h3⟩ := h
  simp only [Value.slice.injEq] at hv
  obtain ⟨rfl, rfl, rfl⟩ := hv
  have hl : (xs.take k).length = k := by rw [List.length_take]; omega
  refine ⟨_, _, by rw [hl], by omega, h2, ?_⟩
  rcases h3 with rfl | ⟨b, off, ha, hb1, hb2, hc⟩
  · exact .inl (by simp)
  · exact .inr ⟨b, off, ha, hb1, hb2, fun i x hx => hc i x (by
      rw [List.getElem?_take] at hx
      split at hx
      · exact hx
      · cases hx)⟩

/-- The closure: a drive's place is that of the drive in this variable. -/
def sameF_ (B : Nat) : Value := .func (.func 236) #[] #[.pointer (some ⟨B, 0, none⟩)]

set_option maxHeartbeats 1000000 in
theorem same1_any (w : World) (e d : DriveD) (B : Nat) (q : VarG w B (driveC d)) (hl : B < w.heap.size) :
    Calls Tryz.prog 236 #[.agg (driveC e).toArray, .pointer (some ⟨B, 0, none⟩)] w fun r w' => r = .returned (.bool (e.tk == d.tk && e.ta == d.ta)) ∧ Below w.heap.size w w' := by
  have hE := fun p q u => guard_addrK .eql p q e.tk e.ta d.tk d.ta u
  have hQ := fun u => eql_addrK e.tk e.ta d.tk d.ta u
  generalize (e.tk == d.tk && e.ta == d.ta) = r at *
  go_enter Tryz.func236, Tryz.ntmps236
  go_wp2_with (refine wpList_boxG (vs := driveC e) rfl _ rfl rfl ?_)
  intro u1 g1 p1 s1
  have hc : CV u1 w.heap.size 0 [.int .i64 e.tk, .int .i64 e.ta] := p1.c.part 0 2
  have hd : CV u1 B 0 [.int .i64 d.tk, .int .i64 d.ta] := (q.below g1 hl).c.part 0 2
  go_wp2_with (first
    | refine wpList_loadG Tryz.isAgg118 Tryz.sizeOf118 _ rfl rfl rfl rfl hc ?_
    | refine wpList_loadG Tryz.isAgg118 Tryz.sizeOf118 _ rfl rfl rfl rfl hd ?_
    | refine wpList_binG _ _ rfl rfl rfl rfl (hE _ _ _) (hQ _) ?_)
  go_ret
  exact ⟨rfl, g1⟩

set_option maxHeartbeats 4000000 in
theorem indexFunc_any (w : World) (lo hi : Nat) (v : Value) (xs : List DriveD) (d : DriveD) (B : Nat) (h : GR driveE w lo hi v xs) (hhi : hi ≤ w.heap.size) (q : VarG w B (driveC d)) (hl : B < w.heap.size) :
    Calls Tryz.prog 274 #[v, sameF_ B] w fun r w' => ∃ z : Int, r = .returned (.int .i64 z) ∧ decide (0 ≤ z) = !freshD xs d ∧ Below w.heap.size w w' := by
  obtain ⟨ad, cap, rfl, h1, h2⟩ := h.shape
  have HK : Hid (GR driveE w lo hi (.slice ad xs.length cap) xs) := h
  clear h
  unfold maxLen at h2
  unfold sameF_
  go_enter Tryz.func274, Tryz.ntmps274
  go_wp2_with fail
  go_loopw [8] (fun i wr => ∃ j : Nat, j ≤ xs.length ∧ i = .int .i64 j ∧ Below w.heap.size w wr ∧ FreshTo xs d j) (fun i _ => xs.length - (intOf i).toNat)
  case atStart => exact ⟨0, Nat.zero_le _, rfl, Below.refl _ _, fun k e hk _ => by omega⟩
  case round =>
    obtain ⟨j, hj, rfl, hb, hto⟩ := hrel
    have HT : Hid (FreshTo xs d j) := hto
    clear hto
    have hsz := hb.size
    by_cases hlt : j < xs.length
    · obtain ⟨x, hx⟩ : ∃ x, xs[j]? = some x := ⟨xs[j], List.getElem?_eq_getElem hlt⟩
      obtain ⟨b, off, capx, hv, hb1, hb2, h5⟩ := HK.out.at_ hx
      simp only [Value.slice.injEq, true_and] at hv
      obtain ⟨rfl, rfl⟩ := hv
      have h5 : CV wr b (off + j * 3) (driveC x) := h5.below hb (by omega)
      have HX : Hid (xs[j]? = some x) := hx
      have hS := same1_any wr x d B (q.below hb hl) (by omega)
      clear hx
      obtain ⟨c, hc⟩ : ∃ c, (x.tk == d.tk && x.ta == d.ta) = c := ⟨_, rfl⟩
      have HC : Hid ((x.tk == d.tk && x.ta == d.ta) = c) := hc
      rw [hc] at hS
      clear hc
      go_wp2_with (refine wpList_loadG Tryz.isAgg173 Tryz.sizeOf173 _ rfl rfl rfl rfl h5 ?_)
      refine hS.mono ?_
      clear hS h5
      rintro e1 u1 ⟨rfl, g1⟩
      have hb2 : Below w.heap.size w u1 := hb.trans (g1.mono hsz)
      clear g1 hb hsz
      cases c
      · have HN : Hid (FreshTo xs d (j + 1)) := fresh_next HT.out HX.out HC.out
        go_wp2
        go_roundw
        case rel => exact ⟨j + 1, by omega, by go_num, hb2, HN.out⟩
        case measure => simp [intOf]; omega
      · have HF : Hid (freshD xs d = false) := by
          show freshD xs d = false
          unfold freshD
          cases e' : xs.all _ with
          | false => rfl
          | true =>
            have := List.all_eq_true.mp e' x (List.mem_of_getElem? HX.out)
            simp only [HC.out] at this; cases this
        go_wp2
        go_ret
        exact ⟨_, rfl, by rw [HF.out]; exact decide_eq_true (by omega), hb2⟩
    · obtain rfl : j = xs.length := by omega
      have HF : Hid (freshD xs d = true) := by
        have := freshD_of HT.out
        rwa [List.take_length] at this
      go_wp2
      go_ret
      exact ⟨_, rfl, by rw [HF.out]; rfl, hb⟩

set_option maxHeartbeats 1000000 in
theorem containsFunc_any (w : World) (lo hi : Nat) (v : Value) (xs : List DriveD) (d : DriveD) (B : Nat) (h : GR driveE w lo hi v xs) (hhi : hi ≤ w.heap.size) (q : VarG w B (driveC d)) (hl : B < w.heap.size) :
    Calls Tryz.prog 235 #[v, sameF_ B] w fun r w' => r = .returned (.bool (!freshD xs d)) ∧ Below w.heap.size w w' := by
  have hI := indexFunc_any w lo hi v xs d B h hhi q hl
  obtain ⟨ad, cap, rfl, h1, h2⟩ := h.shape
  clear h
  unfold sameF_ at *
  go_enter Tryz.func235, Tryz.ntmps235
  go_wp2_with fail
  refine hI.mono ?_
  clear hI
  rintro e1 u1 ⟨z, rfl, hz, g1⟩
  go_wp2
  go_ret
  exact ⟨rfl, g1⟩
end Go.Proofs.YtaoiookfmgpmkaaGreatDoor
