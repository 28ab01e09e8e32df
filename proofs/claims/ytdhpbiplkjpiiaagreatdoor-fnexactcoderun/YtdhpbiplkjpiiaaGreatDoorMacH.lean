/-
  Code run by the program: (*machine).run. (Written by our generator gen_mach.py.)
-/
import Derived.Test.YtdhpbiplkjpiiaaGreatDoorMacG
import Derived.Deep.LoopGhost
namespace Go.Proofs.YtdhpbiplkjpiiaaGreatDoor
open Go.ChangeShapes Go.WideShapes Go.ChangeAt Go.RowKit
set_option linter.unusedVariables false
set_option maxRecDepth 100000

theorem Steps.out {w wr w' : World} {S B : Nat} {ps : List InsD} {j : Nat} (h : Steps w S ps j wr) (o : Out B (B + 1) wr w') (hBS : B < S) : Steps w S ps j w' := by
  have hk : ∀ k, k < wr.heap.size → B < k → w'.heap[k]? = wr.heap[k]? := fun k h1 h2 => o.block k h1 (.inr h2)
  refine ⟨fun x hx => ?_, fun x => ?_, Nat.lt_of_lt_of_le h.size o.size, fun i p hi hp => ?_⟩
  · rw [World.cell?_of_block (w := wr) (hk S h.size hBS)]; exact h.some_ x hx
  · rw [World.frozen?_of_block (w := wr) (hk S h.size hBS)]; exact h.frozen x
  · obtain ⟨I, h1, h2, h3, h4⟩ := h.done i p hi hp
    exact ⟨I, by rw [World.cell?_of_block (w := wr) (hk S h.size hBS)]; exact h1, h2.kept (hk I h4 (by omega)), h3, Nat.lt_of_lt_of_le h4 o.size⟩

theorem MacS.set {A : Nat} {w : World} {B : Nat} {d : MemD} {st : List Int} {f : Nat} {pc : Int} (h : MacS A w B d st f pc) (n : Int) : MacS A (w.setCell ⟨B, 17, none⟩ (.int .i64 n)) B d st f n := by
  obtain ⟨x, y, z, lo, hi, hh, hm, hmo, h1, h2, h3, h4⟩ := h
  have o := out_set w B 17 (.int .i64 n)
  exact ⟨x, y, z, lo, hi, hh, hm.setPc n, hmo.out o h1 (by omega), Nat.le_trans h1 o.size, h2, h3, h4⟩

set_option maxHeartbeats 8000000 in
theorem run_any (A : Nat) (w w0 : World) (B S : Nat) (ps : List InsD) (D : Nat → Int) (s0 : RunC) (ty : TypeId) (v : Value) (d1 : MemD) (c1 : Int) (f1 : Nat) (hF : Flow ps D) (hs : SaneC ps D s0) (hf : s0.f ≤ 100) (hr : runC ps s0 = (d1, c1, f1))
    (hv : MacS A w B s0.d s0.st s0.f (s0.pc : Int)) (hSt : Steps w0 S ps ps.length w) (hA : A ≤ w.heap.size) (hB : B < w.heap.size) (hBS : B < S) (hG : w.cell? ⟨0, 0, none⟩ = some (.iface ty v)) (hGB : 0 ≠ B) :
    Calls Tryz.prog 26 #[.pointer (some ⟨B, 0, none⟩), .slice (some ⟨S, 0, none⟩) ps.length ps.length] w fun e w' => e = .returned (if c1 = 0 then .nilIface else .iface ty v) ∧ (∃ st pc, MacS A w' B d1 st f1 pc) ∧ Out B (B + 1) w w' := by
  obtain ⟨rv, hrv⟩ : ∃ rv, (if c1 = 0 then Value.nilIface else .iface ty v) = rv := ⟨_, rfl⟩
  rw [hrv]
  have HRV : Hid ((if c1 = 0 then Value.nilIface else .iface ty v) = rv) := hrv
  have HF : Hid (Flow ps D) := hF
  have HS : Hid (Steps w0 S ps ps.length w) := hSt
  have HGG : Hid (w.cell? ⟨0, 0, none⟩ = some (.iface ty v)) := hG
  have HI : Hid (SaneC ps D s0 ∧ runC ps s0 = (d1, c1, f1) ∧ s0.f ≤ 100) := ⟨hs, hr, hf⟩
  have HV : Hid (MacS A w B s0.d s0.st s0.f (s0.pc : Int) ∧ Out B (B + 1) w w) := ⟨hv, out_refl _ _⟩
  have hlen : ps.length ≤ 400 := hF.many
  have hSl : S < w.heap.size := hSt.size
  clear hF hSt hG hs hr hf hv hrv
  go_enter Tryz.func26, Tryz.ntmps26
  go_wp2_with fail
  go_loopg [5] (measC ps s0) (fun gk q wr => ∃ s : RunC, Hid (measC ps s = gk) ∧ Hid (SaneC ps D s ∧ runC ps s = (d1, c1, f1) ∧ s.f ≤ 100) ∧ Hid (MacS A wr B s.d s.st s.f (s.pc : Int) ∧ Out B (B + 1) w wr))
  case atStart => exact ⟨s0, rfl, HI, HV⟩
  case round =>
    clear HI HV
    obtain ⟨s, hk, hI, hV⟩ := hrel
    obtain ⟨x, y, z, lo, hi, h, hm, _⟩ := id hV.out.1
    have cp := hm.cp
    have fp := hm.f_ 17
    clear hm
    by_cases hlt : s.pc < ps.length
    · have hlt' : (s.pc : Int) < (ps.length : Int) := by omega
      obtain ⟨p, hp⟩ : ∃ p, ps[s.pc]? = some p := ⟨ps[s.pc], List.getElem?_eq_getElem hlt⟩
      have hfit := HF.out.fit _ _ hp
      have hop := fit_op hfit
      have hnd := HF.out.need _ _ hp
      have hrm := HF.out.room _ _ hp
      have hmo := HF.out.most s.pc
      have hheld := hI.out.1.held
      obtain ⟨I, cS, ci0, hSI, hIs0⟩ := (HS.out.out hV.out.2 hBS).done s.pc p hlt hp
      have hV1 := hV.out.1.set ((s.pc : Int) + 1)
      have hO1 := hV.out.2.trans (out_set wr B 17 (.int .i64 ((s.pc : Int) + 1)))
      have hG1 : wr.cell? ⟨0, 0, none⟩ = some (.iface ty v) := by
        rw [World.cell?_of_block (w := w) (hV.out.2.block 0 (World.block_lt_of_cell? w _ HGG.out) (by omega))]; exact HGG.out
      obtain ⟨u, hu⟩ : ∃ u, wr.setCell ⟨B, 17, none⟩ (.int .i64 ((s.pc : Int) + 1)) = u := ⟨_, rfl⟩
      have ci : CellI u I 0 p := ci0.kept (by rw [← hu]; exact Below.heap_setCell _ _ _ _ (by show I ≠ B; omega))
      have hG2 : u.cell? ⟨0, 0, none⟩ = some (.iface ty v) := by rw [← hu, cell_set_other _ (.inl hGB)]; exact hG1
      have hus : u.heap.size = wr.heap.size := by rw [← hu]; simp [World.setCell]
      have hwr := hV.out.2.size
      rw [hu] at hV1 hO1
      have HU : Hid (_ = u) := hu
      have HN : Hid (¬ (p.op = 8 ∧ s.f = 0) → (SaneC ps D (nextC p s) ∧ runC ps (nextC p s) = (d1, c1, f1) ∧ (nextC p s).f ≤ 100) ∧ measC ps (nextC p s) < gk) := fun hb =>
        ⟨⟨hI.out.1.next HF.out hp, by rw [← runC_next HF.out hp hb]; exact hI.out.2.1, by
          have := hI.out.2.2
          show (if p.op = 8 then s.f - 1 else s.f) ≤ 100
          split <;> omega⟩, by rw [← hk.out]; exact measC_next HF.out hp hb⟩
      have hme := hI.out.1.mem
      have hf100 := hI.out.2.2
      have HL : Hid (p.op = 8 → s.f = 0 → (s.d, (1 : Int), 0) = (d1, c1, f1)) := fun h8 h0 => by rw [← hI.out.2.1, runC_long hp h8 h0]
      have HOO : Hid (Out B (B + 1) w u) := hO1
      have HV1 : Hid (MacS A u B s.d s.st s.f ((s.pc : Int) + 1)) := hV1
      have HCI : Hid (CellI u I 0 p) := ci
      have HG2 : Hid (u.cell? ⟨0, 0, none⟩ = some (.iface ty v)) := hG2
      unfold fitI at hfit
      unfold needI byI at *
      clear hV1 hO1 hV hI ci ci0 hu hp hG1 hG2 hk
      by_cases e1 : p.op = 1
      · have hcv : cloV p.op I = .func (.func 58) #[] #[.pointer (some ⟨I, 0, none⟩)] := by rw [e1]; rfl
        rw [hcv] at cS
        rw [e1] at hfit hnd hrm
        simp at hfit hnd hrm
        have hC := mac1 HV1.out e1 (by omega) (by omega) (by omega) (by omega) HCI.out
        clear hcv hfit hnd hrm hheld hmo hme hop
        go_wp2_with fail
        rw [HU.out]
        refine hC.mono ?_
        clear hC
        rintro e1 u1 ⟨rfl, V1, o1⟩
        have HX : Hid ((SaneC ps D (nextC p s) ∧ runC ps (nextC p s) = (d1, c1, f1) ∧ (nextC p s).f ≤ 100) ∧ measC ps (nextC p s) < gk) := HN.out (by omega)
        have HY : Hid (MacS A u1 B (nextC p s).d (nextC p s).st (nextC p s).f ((nextC p s).pc : Int) ∧ Out B (B + 1) w u1) := ⟨V1, HOO.out.trans o1⟩
        clear V1 o1 HN HL HOO HV1 HCI HG2
        go_wp2
        go_roundg (measC ps (nextC p s))
        case measure => exact HX.out.2
        case rel => exact ⟨nextC p s, rfl, HX.out.1, HY⟩
      by_cases e2 : p.op = 2
      · have hcv : cloV p.op I = .func (.func 60) #[] #[.pointer (some ⟨I, 0, none⟩)] := by rw [e2]; rfl
        rw [hcv] at cS
        rw [e2] at hfit hnd hrm
        simp at hfit hnd hrm
        have hC := mac2 HV1.out hme hfit.1 e2 (by omega) (by omega) (by omega) (by omega) HCI.out
        clear hcv hfit hnd hrm hheld hmo hme hop
        go_wp2_with fail
        rw [HU.out]
        refine hC.mono ?_
        clear hC
        rintro e1 u1 ⟨rfl, V1, o1⟩
        have HX : Hid ((SaneC ps D (nextC p s) ∧ runC ps (nextC p s) = (d1, c1, f1) ∧ (nextC p s).f ≤ 100) ∧ measC ps (nextC p s) < gk) := HN.out (by omega)
        have HY : Hid (MacS A u1 B (nextC p s).d (nextC p s).st (nextC p s).f ((nextC p s).pc : Int) ∧ Out B (B + 1) w u1) := ⟨V1, HOO.out.trans o1⟩
        clear V1 o1 HN HL HOO HV1 HCI HG2
        go_wp2
        go_roundg (measC ps (nextC p s))
        case measure => exact HX.out.2
        case rel => exact ⟨nextC p s, rfl, HX.out.1, HY⟩
      by_cases e3 : p.op = 3
      · have hcv : cloV p.op I = .func (.func 62) #[] #[.pointer (some ⟨I, 0, none⟩)] := by rw [e3]; rfl
        rw [hcv] at cS
        rw [e3] at hfit hnd hrm
        simp at hfit hnd hrm
        have hC := mac3 HV1.out (by omega) hme hfit.1 e3 (by omega) (by omega) (by omega) (by omega) (by omega) HCI.out
        clear hcv hfit hnd hrm hheld hmo hme hop
        go_wp2_with fail
        rw [HU.out]
        refine hC.mono ?_
        clear hC
        rintro e1 u1 ⟨rfl, V1, o1⟩
        have HX : Hid ((SaneC ps D (nextC p s) ∧ runC ps (nextC p s) = (d1, c1, f1) ∧ (nextC p s).f ≤ 100) ∧ measC ps (nextC p s) < gk) := HN.out (by omega)
        have HY : Hid (MacS A u1 B (nextC p s).d (nextC p s).st (nextC p s).f ((nextC p s).pc : Int) ∧ Out B (B + 1) w u1) := ⟨V1, HOO.out.trans o1⟩
        clear V1 o1 HN HL HOO HV1 HCI HG2
        go_wp2
        go_roundg (measC ps (nextC p s))
        case measure => exact HX.out.2
        case rel => exact ⟨nextC p s, rfl, HX.out.1, HY⟩
      by_cases e4 : p.op = 4
      · have hcv : cloV p.op I = .func (.func 65) #[] #[.pointer (some ⟨I, 0, none⟩)] := by rw [e4]; rfl
        rw [hcv] at cS
        rw [e4] at hfit hnd hrm
        simp at hfit hnd hrm
        have hC := mac4 HV1.out hfit.2.1 hfit.2.2 e4 (by omega) (by omega) (by omega) (by omega) (by omega) HCI.out
        clear hcv hfit hnd hrm hheld hmo hme hop
        go_wp2_with fail
        rw [HU.out]
        refine hC.mono ?_
        clear hC
        rintro e1 u1 ⟨rfl, V1, o1⟩
        have HX : Hid ((SaneC ps D (nextC p s) ∧ runC ps (nextC p s) = (d1, c1, f1) ∧ (nextC p s).f ≤ 100) ∧ measC ps (nextC p s) < gk) := HN.out (by omega)
        have HY : Hid (MacS A u1 B (nextC p s).d (nextC p s).st (nextC p s).f ((nextC p s).pc : Int) ∧ Out B (B + 1) w u1) := ⟨V1, HOO.out.trans o1⟩
        clear V1 o1 HN HL HOO HV1 HCI HG2
        go_wp2
        go_roundg (measC ps (nextC p s))
        case measure => exact HX.out.2
        case rel => exact ⟨nextC p s, rfl, HX.out.1, HY⟩
      by_cases e5 : p.op = 5
      · have hcv : cloV p.op I = .func (.func 67) #[] #[] := by rw [e5]; rfl
        rw [hcv] at cS
        rw [e5] at hfit hnd hrm
        simp at hfit hnd hrm
        have hC := mac5 HV1.out e5 (by omega) (by omega) (by omega)
        clear hcv hfit hnd hrm hheld hmo hme hop
        go_wp2_with fail
        rw [HU.out]
        refine hC.mono ?_
        clear hC
        rintro e1 u1 ⟨rfl, V1, o1⟩
        have HX : Hid ((SaneC ps D (nextC p s) ∧ runC ps (nextC p s) = (d1, c1, f1) ∧ (nextC p s).f ≤ 100) ∧ measC ps (nextC p s) < gk) := HN.out (by omega)
        have HY : Hid (MacS A u1 B (nextC p s).d (nextC p s).st (nextC p s).f ((nextC p s).pc : Int) ∧ Out B (B + 1) w u1) := ⟨V1, HOO.out.trans o1⟩
        clear V1 o1 HN HL HOO HV1 HCI HG2
        go_wp2
        go_roundg (measC ps (nextC p s))
        case measure => exact HX.out.2
        case rel => exact ⟨nextC p s, rfl, HX.out.1, HY⟩
      by_cases e6 : p.op = 6
      · have hcv : cloV p.op I = .func (.func 70) #[] #[.pointer (some ⟨I, 0, none⟩)] := by rw [e6]; rfl
        rw [hcv] at cS
        rw [e6] at hfit hnd hrm
        simp at hfit hnd hrm
        have hC := mac6 HV1.out (by omega) e6 (by omega) (by omega) (by omega) (by omega) (by omega) HCI.out
        clear hcv hfit hnd hrm hheld hmo hme hop
        go_wp2_with fail
        rw [HU.out]
        refine hC.mono ?_
        clear hC
        rintro e1 u1 ⟨rfl, V1, o1⟩
        have HX : Hid ((SaneC ps D (nextC p s) ∧ runC ps (nextC p s) = (d1, c1, f1) ∧ (nextC p s).f ≤ 100) ∧ measC ps (nextC p s) < gk) := HN.out (by omega)
        have HY : Hid (MacS A u1 B (nextC p s).d (nextC p s).st (nextC p s).f ((nextC p s).pc : Int) ∧ Out B (B + 1) w u1) := ⟨V1, HOO.out.trans o1⟩
        clear V1 o1 HN HL HOO HV1 HCI HG2
        go_wp2
        go_roundg (measC ps (nextC p s))
        case measure => exact HX.out.2
        case rel => exact ⟨nextC p s, rfl, HX.out.1, HY⟩
      by_cases e7 : p.op = 7
      · have hcv : cloV p.op I = .func (.func 71) #[] #[.pointer (some ⟨I, 0, none⟩)] := by rw [e7]; rfl
        rw [hcv] at cS
        rw [e7] at hfit hnd hrm
        simp at hfit hnd hrm
        have hC := mac7 HV1.out (by omega) e7 (by omega) (by omega) (by omega) HCI.out
        clear hcv hfit hnd hrm hheld hmo hme hop
        go_wp2_with fail
        rw [HU.out]
        refine hC.mono ?_
        clear hC
        rintro e1 u1 ⟨rfl, V1, o1⟩
        have HX : Hid ((SaneC ps D (nextC p s) ∧ runC ps (nextC p s) = (d1, c1, f1) ∧ (nextC p s).f ≤ 100) ∧ measC ps (nextC p s) < gk) := HN.out (by omega)
        have HY : Hid (MacS A u1 B (nextC p s).d (nextC p s).st (nextC p s).f ((nextC p s).pc : Int) ∧ Out B (B + 1) w u1) := ⟨V1, HOO.out.trans o1⟩
        clear V1 o1 HN HL HOO HV1 HCI HG2
        go_wp2
        go_roundg (measC ps (nextC p s))
        case measure => exact HX.out.2
        case rel => exact ⟨nextC p s, rfl, HX.out.1, HY⟩
      have e8 : p.op = 8 := by omega
      have hcv : cloV p.op I = .func (.func 72) #[] #[.pointer (some ⟨I, 0, none⟩)] := by rw [e8]; rfl
      rw [hcv] at cS
      rw [e8] at hfit
      simp at hfit
      by_cases hz : s.f = 0
      · have hC := mac8z hz HV1.out ty v HG2.out hGB e8 (by omega) (by omega) (by omega) HCI.out
        have he := HL.out e8 hz
        simp only [Prod.mk.injEq] at he
        obtain ⟨rfl, rfl, rfl⟩ := he
        have HR2 : Hid (rv = .iface ty v) := by show rv = _; rw [← HRV.out]; rfl
        clear hcv hfit hnd hrm hheld hmo hme hop
        go_wp2_with fail
        rw [HU.out]
        refine hC.mono ?_
        clear hC
        rintro e1 u1 ⟨rfl, V1, o1⟩
        have HY : Hid (MacS A u1 B s.d s.st 0 p.n ∧ Out B (B + 1) w u1) := ⟨V1, HOO.out.trans o1⟩
        clear V1 o1 HN HL HOO HV1 HCI HG2
        go_wp2
        go_ret
        exact ⟨by rw [HR2.out]; rfl, ⟨_, _, HY.out.1⟩, HY.out.2⟩
      obtain ⟨f, hf⟩ : ∃ f, s.f = f + 1 := ⟨s.f - 1, by omega⟩
      have hC := mac8 f hf (by omega) HV1.out (by omega) e8 (by omega) (by omega) (by omega) HCI.out
      clear hcv hfit hnd hrm hheld hmo hme hop
      go_wp2_with fail
      rw [HU.out]
      refine hC.mono ?_
      clear hC
      rintro e1 u1 ⟨rfl, V1, o1⟩
      have HX : Hid ((SaneC ps D (nextC p s) ∧ runC ps (nextC p s) = (d1, c1, f1) ∧ (nextC p s).f ≤ 100) ∧ measC ps (nextC p s) < gk) := HN.out (by omega)
      have HY : Hid (MacS A u1 B (nextC p s).d (nextC p s).st (nextC p s).f ((nextC p s).pc : Int) ∧ Out B (B + 1) w u1) := ⟨V1, HOO.out.trans o1⟩
      clear V1 o1 HN HL HOO HV1 HCI HG2
      go_wp2
      go_roundg (measC ps (nextC p s))
      case measure => exact HX.out.2
      case rel => exact ⟨nextC p s, rfl, HX.out.1, HY⟩
    · have hlt' : ¬ (s.pc : Int) < (ps.length : Int) := by omega
      have he := hI.out.2.1
      rw [runC_end (by omega)] at he
      simp only [Prod.mk.injEq] at he
      obtain ⟨rfl, rfl, rfl⟩ := he
      have HR2 : Hid (rv = .nilIface) := by show rv = _; rw [← HRV.out, if_pos rfl]
      go_wp2
      go_ret
      exact ⟨by rw [HR2.out]; rfl, ⟨_, _, hV.out.1⟩, hV.out.2⟩
end Go.Proofs.YtdhpbiplkjpiiaaGreatDoor
