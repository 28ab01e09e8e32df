/-
  The program's drives: drivesOk.
-/
import Derived.Test.YtaoiookfmgpmkaaGreatDoorNetImplC
import Derived.Test.YtaoiookfmgpmkaaGreatDoorNetImplF
namespace Go.Proofs.YtaoiookfmgpmkaaGreatDoor
open Go.ChangeShapes Go.WideShapes Go.ChangeAt Go.RowKit
set_option linter.unusedVariables false
set_option linter.unusedSimpArgs false
set_option maxRecDepth 100000

theorem kindOk_of {k t : Int} (h : addrOk ⟨k, t⟩ = true) : kindOk k = true := by
  rw [kindOk_addr] at h
  simp only [Bool.and_eq_true] at h
  exact h.1.1

theorem zero_driveG : (Tryz.prog.info? 173).map (fun i => (i.zero, i.size)) = some (some (.agg (driveC ⟨0, 0, 0⟩).toArray), 3) := by kernel_rfl

set_option maxHeartbeats 8000000 in
theorem iDrivesOk_any (w : World) (lo hi : Nat) (v : Value) (ds : List DriveD) (n : Nat) (h : GR driveE w lo hi v ds) (hhi : hi ≤ w.heap.size) :
    Calls Tryz.prog 186 #[v, .int .i64 n] w fun e w' => e = .returned (.bool (drivesOk ds n)) ∧ Below w.heap.size w w' := by
  obtain ⟨R, hR⟩ : ∃ R, drivesOk ds n = R := ⟨_, rfl⟩
  rw [hR]
  have HR : Hid (drivesOk ds n = R) := hR
  clear hR
  obtain ⟨ad, cap, rfl, h1, h2⟩ := h.shape
  have HK : Hid (GR driveE w lo hi (.slice ad ds.length cap) ds) := h
  clear h
  unfold maxLen at h2
  have hZ := (zero_of_info (P := Tryz.prog) zero_driveG).1
  go_enter Tryz.func186, Tryz.ntmps186
  go_wp2_with fail
  go_loopw [10] (fun i wr => ∃ j : Nat, j ≤ ds.length ∧ i = .int .i64 j ∧ Below w.heap.size w wr ∧ DrivesTo ds n j) (fun i _ => ds.length - (intOf i).toNat)
  case atStart => exact ⟨0, Nat.zero_le _, rfl, Below.refl _ _, fun i y hi _ => by omega⟩
  case round =>
    obtain ⟨j, hj, rfl, hb, hto⟩ := hrel
    have HT : Hid (DrivesTo ds n j) := hto
    clear hto
    have hsz := hb.size
    by_cases hlt : j < ds.length
    rotate_left
    · obtain rfl : j = ds.length := by omega
      have HF : Hid (R = true) := by
        show R = true
        rw [← HR.out]
        exact drivesOk_of fun i d hd => HT.out i d (List.getElem?_eq_some_iff.mp hd).1 hd
      clear hZ
      go_wp2
      go_ret
      exact ⟨ret_bool HF.out.symm, hb⟩
    obtain ⟨d, hd⟩ : ∃ d, ds[j]? = some d := ⟨ds[j], List.getElem?_eq_getElem hlt⟩
    obtain ⟨b, off, capx, hv, hb1, hb2, h5⟩ := HK.out.at_ hd
    simp only [Value.slice.injEq, true_and] at hv
    obtain ⟨rfl, rfl⟩ := hv
    have h5 : CV wr b (off + j * 3) (driveC d) := h5.below hb (by omega)
    have HX : Hid (ds[j]? = some d) := hd
    clear hd
    go_wp2_with (first
      | refine wpList_loadG Tryz.isAgg173 Tryz.sizeOf173 _ rfl rfl rfl rfl h5 ?_
      | refine wpList_allocG hZ rfl rfl ?_)
    intro u1 g1 q1 s1
    clear h5
    have hr3 := q1.run 0 3 (show 0 + 3 ≤ 3 by decide)
    go_wp2_with (refine wpList_storeG Tryz.sizeOf173 _ _ rfl rfl rfl rfl rfl (driveC_one d) hr3.1 hr3.2 ?_)
    intro u2 L
    have q2 := L.var q1
    have s2 := L.size
    have G2 : Below w.heap.size w u2 := L.below _ _ (by omega) (hb.trans (g1.mono (by omega)))
    obtain ⟨DB, hDB⟩ : ∃ DB, wr.heap.size = DB := ⟨_, rfl⟩
    rw [hDB] at q2 ⊢
    have hDB2 : DB < u2.heap.size := by omega
    clear s1 s2 hDB hsz L hr3 q1 g1 hb hZ
    have hCF := containsFunc_any u2 lo hi _ (ds.take j) d DB ((HK.out.under G2 hhi).take j (by omega)) (by have := G2.size; omega) q2 hDB2
    obtain ⟨fr, hfr⟩ : ∃ fr, freshD (ds.take j) d = fr := ⟨_, rfl⟩
    rw [hfr] at hCF
    have HFR : Hid (freshD (ds.take j) d = fr) := hfr
    clear hfr
    unfold sameF_ at hCF
    go_wp2_with fail
    refine hCF.mono ?_
    clear hCF
    rintro e3 u3 ⟨rfl, g3⟩
    have q3 := q2.below g3 hDB2
    have G3 : Below w.heap.size w u3 := G2.trans (g3.mono (by have := G2.size; omega))
    have hDB3 : DB < u3.heap.size := by have := g3.size; omega
    clear q2 G2 g3 hDB2
    cases fr
    · have HF : Hid (R = false) := by show R = false; rw [← HR.out]; exact drivesOk_false HX.out (by rw [HFR.out, Bool.and_false])
      go_wp2
      go_ret
      exact ⟨ret_bool HF.out.symm, G3⟩
    have k0 : u3.cell? ⟨DB, 0, none⟩ = some (.int .i64 d.tk) := q3.c 0 _ rfl
    have k1 : u3.cell? ⟨DB, 1, none⟩ = some (.int .i64 d.ta) := q3.c 1 _ rfl
    have hA := iAddrOk_any u3 d.tk d.ta
    unfold AddrD.val at hA
    go_wp2_with fail
    clear k0 k1
    refine hA.mono ?_
    clear hA
    rintro e4 u4 ⟨rfl, g4⟩
    have q4 := q3.below g4 hDB3
    have G4 : Below w.heap.size w u4 := G3.trans (g4.mono (by have := G3.size; omega))
    clear q3 G3 g4 hDB3
    cases hok : addrOk ⟨d.tk, d.ta⟩ with
    | false =>
      have HF : Hid (R = false) := by show R = false; rw [← HR.out]; exact drivesOk_false HX.out (by unfold driveOk; rw [hok]; rfl)
      clear hok
      go_wp2
      go_ret
      exact ⟨ret_bool HF.out.symm, G4⟩
    | true =>
    have HOK : Hid (addrOk ⟨d.tk, d.ta⟩ = true) := hok
    have hkk := kindOk_of hok
    clear hok
    have hT := fun u => takes_any u d.tk
    rw [hkk, Bool.true_and] at hT
    clear hkk
    have hI := fun u => wireIn_any u d.wire n
    have k0 : u4.cell? ⟨DB, 0, none⟩ = some (.int .i64 d.tk) := q4.c 0 _ rfl
    have k2 : u4.cell? ⟨DB, 2, none⟩ = some (.int .i64 d.wire) := q4.c 2 _ rfl
    obtain ⟨tk, htk⟩ : ∃ tk, (d.tk != 1) = tk := ⟨_, rfl⟩
    rw [htk] at hT
    have HTK : Hid ((d.tk != 1) = tk) := htk
    clear htk
    obtain ⟨wi, hwi⟩ : ∃ wi, (decide (0 ≤ d.wire) && decide (d.wire < (n : Int))) = wi := ⟨_, rfl⟩
    rw [hwi] at hI
    have HWI : Hid ((decide (0 ≤ d.wire) && decide (d.wire < (n : Int))) = wi) := hwi
    clear hwi
    have HD : Hid (driveOk d n = (tk && wi)) := by show _ = _; unfold driveOk; rw [HOK.out, HTK.out, HWI.out, Bool.true_and]
    cases tk
    · have HF : Hid (R = false) := by show R = false; rw [← HR.out]; exact drivesOk_false HX.out (by rw [HD.out]; rfl)
      go_wp2_with fail
      refine (hT _).mono ?_
      rintro e5 u5 ⟨rfl, rfl⟩
      go_wp2
      go_ret
      exact ⟨ret_bool HF.out.symm, G4⟩
    go_wp2_with fail
    refine (hT _).mono ?_
    rintro e5 u5 ⟨rfl, rfl⟩
    go_wp2_with fail
    refine (hI _).mono ?_
    rintro e6 u6 ⟨rfl, rfl⟩
    clear hT hI k0 k2 q4
    cases wi
    · have HF : Hid (R = false) := by show R = false; rw [← HR.out]; exact drivesOk_false HX.out (by rw [HD.out]; rfl)
      go_wp2
      go_ret
      exact ⟨ret_bool HF.out.symm, G4⟩
    · have HN : Hid (DrivesTo ds n (j + 1)) := drives_next HT.out HX.out HD.out HFR.out
      go_wp2
      go_roundw
      case rel => exact ⟨j + 1, by omega, by go_num, G4, HN.out⟩
      case measure => simp [intOf]; omega
end Go.Proofs.YtaoiookfmgpmkaaGreatDoor
