/-
  The model's l5Run: code that is right, run in memory of one's own. (Written by our generator gen_l5run.py.)
-/
import Derived.Test.YtdhpbiplkjpiiaaGreatDoorQC5
import Derived.Test.YtdhpbiplkjpiiaaGreatDoorInsData
import Derived.Deep.LoopGhost
namespace Go.Proofs.YtdhpbiplkjpiiaaGreatDoor
open Go.ChangeShapes Go.WideShapes Go.ChangeAt Go.RowKit
set_option linter.unusedVariables false
set_option linter.unusedSimpArgs false
set_option maxRecDepth 100000

def insL (p : InsD) : List Value := [.int .i64 p.op, .int .i64 p.n, .int .i64 p.ak, .int .i64 p.at_]
theorem insL_one (p : InsD) : ∀ v ∈ insL p, v.oneCell' = true := by
  intro v hv
  simp only [insL, List.mem_cons, List.not_mem_nil, or_false] at hv
  rcases hv with rfl | rfl | rfl | rfl <;> rfl
theorem zero_insR : (Tryz.prog.info? 47).map (fun i => (i.zero, i.size)) = some (some (.agg (insL ⟨0, 0, 0, 0⟩).toArray), 4) := by kernel_rfl

/-- What holds between the rounds. -/
structure RunL (w : World) (lo hi PM : Nat) (ms zs : List Value) (hv : Value) (s : RunC) (wr : World) : Prop where
  row : RowZ wr (PM + 2) hv s.st
  mem : MO wr lo hi (.agg ms.toArray) s.d
  pm : VarG wr PM ms
  pr : VarG wr (PM + 1) zs
  out : OutB lo hi PM w wr
  size : PM + 2 ≤ wr.heap.size

set_option maxHeartbeats 16000000 in
theorem l5Run_any (w : World) (lo hi lo' hi' : Nat) (pa pb pc : Option Go.Addr) (la ca lb cb lc cc : Nat) (v : Value) (d : MemD) (ps : List InsD) (D : Nat → Int) (f : Nat) (d1 : MemD) (c1 : Int) (f1 : Nat) (hF : Flow ps D) (hd : memOk d = true) (hf : f ≤ 100) (hr : runC ps ⟨0, d, [], f⟩ = (d1, c1, f1))
    (hm : MO w lo hi (.agg #[.slice pa la ca, .slice pb lb cb, .slice pc lc cc]) d) (hhi : hi ≤ w.heap.size) (hps : NR w lo' hi' v ps) (hlo : hi' ≤ lo) (hhi' : hi' ≤ w.heap.size) :
    Calls Tryz.prog 18 #[.agg #[.slice pa la ca, .slice pb lb cb, .slice pc lc cc], v, .int .i64 f] w fun e w' => e = .returned (.tuple #[.agg #[.slice pa la ca, .slice pb lb cb, .slice pc lc cc], .int .i64 c1, .int .i64 f1]) ∧ MO w' lo hi (.agg #[.slice pa la ca, .slice pb lb cb, .slice pc lc cc]) d1 ∧ Out lo hi w w' := by
  have hZ := (zero_of_info (P := Tryz.prog) zero_memD).1
  have hzI := (zero_of_info (P := Tryz.prog) zero_insR).1
  obtain ⟨ad, cap, rfl, hp1, hp2⟩ := hps.shape
  unfold maxLen at hp2
  have HF : Hid (Flow ps D) := hF
  have HPS : Hid (NR w lo' hi' (.slice ad ps.length cap) ps) := hps
  have HM : Hid (MO w lo hi (.agg #[.slice pa la ca, .slice pb lb cb, .slice pc lc cc]) d) := hm
  have HR : Hid (SaneC ps D ⟨0, d, [], f⟩ ∧ runC ps ⟨0, d, [], f⟩ = (d1, c1, f1)) := ⟨sane_start hF hd f, hr⟩
  clear hF hps hm hr hd
  obtain ⟨m0, hm0⟩ : ∃ m0, measC ps ⟨0, d, [], f⟩ = m0 := ⟨_, rfl⟩
  go_enter Tryz.func18, Tryz.ntmps18
  go_wp2_with (refine wpList_boxG (vs := [.slice pa la ca, .slice pb lb cb, .slice pc lc cc]) rfl _ rfl rfl ?_)
  intro u1 g1 p1 s1
  go_wp2_with (refine wpList_allocG hZ rfl rfl ?_)
  intro u2 g2 q2 s2
  have p2 := p1.below g2 (by omega)
  have G2 := g1.trans (g2.mono (by omega))
  clear g1 g2 p1
  go_wp2_with fail
  obtain ⟨PM, hPM⟩ : ∃ PM, w.heap.size = PM := ⟨_, rfl⟩
  obtain ⟨u3, hu3, g3, r3, s3⟩ : ∃ u3, u2.alloc (.cells #[] 3) = u3 ∧ Below u2.heap.size u2 u3 ∧ RowZ u3 (PM + 2) (.slice (some ⟨u2.heap.size, 0, none⟩) 0 0) [] ∧ u3.heap.size = u2.heap.size + 1 :=
    ⟨_, rfl, (Below.refl _ _).alloc (Nat.le_refl _) _, rowZ_none u2 (PM + 2) (by omega), by simp⟩
  have HV : Hid (RunL w lo hi PM [.slice pa la ca, .slice pb lb cb, .slice pc lc cc] [.slice none 0 0, .slice none 0 0, .slice none 0 0] (.slice (some ⟨u2.heap.size, 0, none⟩) 0 0) ⟨0, d, [], f⟩ u3) :=
    ⟨r3, (HM.out.below G2 hhi).below g3 (by omega), hPM ▸ p2.below g3 (by omega), hPM ▸ q2.below g3 (by omega), .of_below (hPM ▸ (G2.trans (g3.mono (by omega)))), by omega⟩
  try rw [hu3]
  have HPM : Hid (w.heap.size = PM) := hPM
  rw [hPM] at hhi hhi'
  try rw [hPM]
  have hg0 : u2.heap.size = PM + 1 + 1 := by omega
  rw [hg0] at HV
  try rw [hg0]
  clear hPM hg0 hu3 s1 s2 s3 p2 q2 G2 g3 r3
  go_loopg [2, 9, 10] m0 (fun gk fv hv pv wr => ∃ s : RunC, Hid (measC ps s = gk) ∧ Hid (SaneC ps D s ∧ runC ps s = (d1, c1, f1) ∧ s.f ≤ 100) ∧ fv = .int .i64 s.f ∧ pv = .int .i64 s.pc ∧ Hid (RunL w lo hi PM [.slice pa la ca, .slice pb lb cb, .slice pc lc cc] [.slice none 0 0, .slice none 0 0, .slice none 0 0] hv s wr))
  case atStart => exact ⟨⟨0, d, [], f⟩, hm0, ⟨HR.out.1, HR.out.2, hf⟩, rfl, rfl, HV⟩
  case round =>
    clear HV hm0 HR hf
    obtain ⟨s, hk, hI, rfl, rfl, hV⟩ := hrel
    obtain ⟨hrow, hmm, hpm, hpr, hout, hsz⟩ := id hV.out
    obtain ⟨ah, ch, rfl, hc1, hc2⟩ := hrow.shape
    have HROW : Hid (RowZ wr (PM + 2) (.slice ah s.st.length ch) s.st) := hrow
    clear hrow hV
    have c0 : wr.cell? ⟨PM, 0, none⟩ = some (.slice pa la ca) := hpm.c 0 _ rfl
    have c1' : wr.cell? ⟨PM, 1, none⟩ = some (.slice pb lb cb) := hpm.c 1 _ rfl
    have c2 : wr.cell? ⟨PM, 2, none⟩ = some (.slice pc lc cc) := hpm.c 2 _ rfl
    by_cases hlt : s.pc < ps.length
    rotate_left
    · have hlt' : ¬ ((s.pc : Int) < (ps.length : Int)) := by omega
      have he := hI.out.2.1
      rw [runC_end (by omega)] at he
      simp only [Prod.mk.injEq] at he
      obtain ⟨rfl, rfl, rfl⟩ := he
      have hrun := hpr.run 0 3 (show 0 + 3 ≤ 3 by decide)
      go_wp2_with (refine wpList_storeG Tryz.sizeOf28 (vs := [.slice pa la ca, .slice pb lb cb, .slice pc lc cc]) _ _ rfl rfl rfl rfl rfl three_one hrun.1 hrun.2 ?_)
      intro u6 L6
      have V6 := L6.var hpr
      have hm6 := hmm.kept fun k q1 q2 => L6.block k (by omega)
      have ho6 : Out lo hi w u6 := by
        have hB0 : Below 0 w wr := ⟨hout.os, hout.tape, hout.output, hout.size, fun k hk => by omega⟩
        have hB1 := L6.below 0 w (Nat.zero_le _) hB0
        exact ⟨hB1.os, hB1.tape, hB1.output, hB1.size, fun k q1 q2 => by rw [HPM.out] at q1; exact (L6.block k (by omega)).trans (hout.block k q1 q2)⟩
      clear L6 hrun c0 c1' c2 hpm hpr hmm hout
      have k0 : u6.cell? ⟨PM + 1, 0, none⟩ = some (.slice pa la ca) := V6.c 0 _ rfl
      have k1 : u6.cell? ⟨PM + 1, 1, none⟩ = some (.slice pb lb cb) := V6.c 1 _ rfl
      have k2 : u6.cell? ⟨PM + 1, 2, none⟩ = some (.slice pc lc cc) := V6.c 2 _ rfl
      go_wp2
      refine bodyPost_ret (v := .tuple #[.agg #[.slice pa la ca, .slice pb lb cb, .slice pc lc cc], .int .i64 0, .int .i64 s.f]) ?_ rfl ⟨rfl, hm6, ho6⟩
      simp [results, Tryz.results18, go_sem, k0, k1, k2]
    have hlt' : (s.pc : Int) < (ps.length : Int) := by omega
    obtain ⟨p, hp⟩ : ∃ p, ps[s.pc]? = some p := ⟨ps[s.pc], List.getElem?_eq_getElem hlt⟩
    have hfit := HF.out.fit _ _ hp
    have hnd := HF.out.need _ _ hp
    have hmo := HF.out.most s.pc
    have hheld := hI.out.1.held
    rw [← hheld] at hnd hmo
    have hl12 : s.st.length ≤ 12 := by omega
    have hop := fit_op hfit
    have hme := hI.out.1.mem
    obtain ⟨b, off, capx, hv, hb1, hb2, h5⟩ := HPS.out.at_ hp
    simp only [Value.slice.injEq, true_and] at hv
    obtain ⟨rfl, rfl⟩ := hv
    have hcv : CV wr b (off + s.pc * 4) (insL p) := fun j v hj => by
      rw [World.cell?_of_block (w := w) (hout.block b (by omega) (by omega))]
      match j, hj with
      | 0, hj => simp [insL] at hj; subst hj; exact h5.c0
      | 1, hj => simp [insL] at hj; subst hj; exact h5.c1
      | 2, hj => simp [insL] at hj; subst hj; exact h5.c2
      | 3, hj => simp [insL] at hj; subst hj; exact h5.c3
      | j + 4, hj => simp [insL] at hj
    have HN : Hid (¬ (p.op = 8 ∧ s.f = 0) → (SaneC ps D (nextC p s) ∧ runC ps (nextC p s) = (d1, c1, f1) ∧ (nextC p s).f ≤ 100) ∧ measC ps (nextC p s) < gk) := fun hb =>
      ⟨⟨hI.out.1.next HF.out hp, by rw [← runC_next HF.out hp hb]; exact hI.out.2.1, by
        have := hI.out.2.2
        show (if p.op = 8 then s.f - 1 else s.f) ≤ 100
        split <;> omega⟩, by rw [← hk.out]; exact measC_next HF.out hp hb⟩
    have HL : Hid (p.op = 8 → s.f = 0 → (s.d, (1 : Int), 0) = (d1, c1, f1)) := fun h8 h0 => by rw [← hI.out.2.1, runC_long hp h8 h0]
    have hf100 := hI.out.2.2
    have HFIT : Hid (fitI p s.pc ps.length = true ∧ needI p ≤ (s.st.length : Int) ∧ memOk s.d = true) := ⟨hfit, hnd, hme⟩
    clear h5 hI hk hp hheld hmo hfit hnd hme
    go_wp2_with (first
      | refine wpList_loadG Tryz.isAgg47 Tryz.sizeOf47 (vs := insL p) _ rfl rfl rfl rfl hcv ?_
      | refine wpList_allocG hzI rfl rfl ?_)
    intro uA gA vA sA
    have hrunA := vA.run 0 4 (show 0 + 4 ≤ 4 by decide)
    go_wp2_with (refine wpList_storeG Tryz.sizeOf47 (vs := insL p) _ _ rfl rfl rfl rfl rfl (insL_one p) hrunA.1 hrunA.2 ?_)
    intro u4 L4
    have V4 := L4.var vA
    have g4 : Below wr.heap.size wr u4 := L4.below _ _ (Nat.le_refl _) gA
    have z4 := g4.size
    have z4' : u4.heap.size = wr.heap.size + 1 := by rw [L4.size]; exact sA
    obtain ⟨X, hX⟩ : ∃ X, wr.heap.size = X := ⟨_, rfl⟩
    have hrow4 := HROW.out.below g4 (Nat.le_refl _)
    have hm4 := hmm.below g4 (by omega)
    have hpm4 := hpm.below g4 (by omega)
    have hpr4 := hpr.below g4 (by omega)
    have hout4 : OutB lo hi PM w u4 := hout.trans (.of_below (g4.mono (by omega)))
    rw [hX] at V4 g4 z4 z4'
    try rw [hX]
    have HS4 : Hid (PM + 2 ≤ X ∧ u4.heap.size = X + 1) := by show _ ∧ _; omega
    clear L4 hrunA vA gA sA hX hcv c0 c1' c2 hpm hpr hmm hout HROW g4 z4 z4' hsz hb1 hb2
    have c0 : u4.cell? ⟨PM, 0, none⟩ = some (.slice pa la ca) := hpm4.c 0 _ rfl
    have c1' : u4.cell? ⟨PM, 1, none⟩ = some (.slice pb lb cb) := hpm4.c 1 _ rfl
    have c2 : u4.cell? ⟨PM, 2, none⟩ = some (.slice pc lc cc) := hpm4.c 2 _ rfl
    have i0 : u4.cell? ⟨X, 0, none⟩ = some (.int .i64 p.op) := V4.c 0 _ rfl
    have i1 : u4.cell? ⟨X, 1, none⟩ = some (.int .i64 p.n) := V4.c 1 _ rfl
    have i2 : u4.cell? ⟨X, 2, none⟩ = some (.int .i64 p.ak) := V4.c 2 _ rfl
    have i3 : u4.cell? ⟨X, 3, none⟩ = some (.int .i64 p.at_) := V4.c 3 _ rfl
    have HA4 : Hid (RowZ u4 (PM + 2) (.slice ah s.st.length ch) s.st ∧ MO u4 lo hi (.agg #[.slice pa la ca, .slice pb lb cb, .slice pc lc cc]) s.d ∧ VarG u4 PM [.slice pa la ca, .slice pb lb cb, .slice pc lc cc] ∧ VarG u4 (PM + 1) [.slice none 0 0, .slice none 0 0, .slice none 0 0] ∧ OutB lo hi PM w u4 ∧ VarG u4 X (insL p)) := ⟨hrow4, hm4, hpm4, hpr4, hout4, V4⟩
    clear hrow4 hm4 hpm4 hpr4 hout4 V4
    by_cases e7 : p.op = 7
    · have b7 : (p.op == 7) = true := by simp [e7]
      have b8 : (p.op == 8) = false := by simp [e7]
      have HE7 : Hid (p.op = 7) := e7
      clear hop e7
      go_wp2_with fail
      clear c0 c1' c2 i0 i1 i2 i3
      refine (l5Do_jump u4 pa pb pc ah la ca lb cb lc cc s.st.length ch p (.inl HE7.out)).mono ?_
      rintro e1 u5 ⟨rfl, g5⟩
      have hr5 := HA4.out.1.below g5 (Nat.le_refl _)
      have hm5 := HA4.out.2.1.below g5 (by have := HS4.out; omega)
      have hpm5 := HA4.out.2.2.1.below g5 (by have := HS4.out; omega)
      have hpr5 := HA4.out.2.2.2.1.below g5 (by have := HS4.out; omega)
      have hout5 := HA4.out.2.2.2.2.1.trans (.of_below (g5.mono (by have := HS4.out; omega)))
      have V5 := HA4.out.2.2.2.2.2.below g5 (by have := HS4.out; omega)
      have z5 := g5.size
      clear g5
      have hrun := hpm5.run 0 3 (show 0 + 3 ≤ 3 by decide)
      go_wp2_with (refine wpList_storeG Tryz.sizeOf28 (vs := [.slice pa la ca, .slice pb lb cb, .slice pc lc cc]) _ _ rfl rfl rfl rfl rfl three_one hrun.1 hrun.2 ?_)
      intro u6 L6
      have z6 := L6.size
      have hpm6 := L6.var hpm5
      have hpr6 := L6.other hpr5 (by omega)
      have hm6 := hm5.kept fun k q1 q2 => L6.block k (by omega)
      have hr6 := hr5.at_ fun g hg => L6.block g (by have := (hr5.lt g hg).1; omega)
      have hout6 : OutB lo hi PM w u6 := by
        have hB0 : Below 0 w u5 := ⟨hout5.os, hout5.tape, hout5.output, hout5.size, fun k hk => by omega⟩
        have hB1 := L6.below 0 w (Nat.zero_le _) hB0
        exact ⟨hB1.os, hB1.tape, hB1.output, hB1.size, fun k q1 q2 => (L6.block k (by omega)).trans (hout5.block k q1 q2)⟩
      have V6 := L6.other V5 (by have := HS4.out; omega)
      have i1 : u6.cell? ⟨X, 1, none⟩ = some (.int .i64 p.n) := V6.c 1 _ rfl
      clear V5 V6
      have HX : Hid ((SaneC ps D (nextC p s) ∧ runC ps (nextC p s) = (d1, c1, f1) ∧ (nextC p s).f ≤ 100) ∧ measC ps (nextC p s) < gk) := HN.out (by have := HE7.out; omega)
      have hS : (nextC p s).st = s.st := by unfold nextC stackI; simp [HE7.out]
      have hD : (nextC p s).d = s.d := by unfold nextC memI; simp [HE7.out]
      have hPC : ((nextC p s).pc : Int) = p.n := by
        have := (fit_jump HFIT.out.1 (.inr HE7.out)).2.2
        have hj : jumpsI p s.st = true := by unfold jumpsI; simp [b7]
        show ((if jumpsI p s.st then p.n.toNat else s.pc + 1 : Nat) : Int) = p.n
        rw [hj, if_pos rfl]; omega
      have hFU : (nextC p s).f = s.f := by unfold nextC; simp [HE7.out]
      have HY : Hid (RunL w lo hi PM [.slice pa la ca, .slice pb lb cb, .slice pc lc cc] [.slice none 0 0, .slice none 0 0, .slice none 0 0] (.slice ah s.st.length ch) (nextC p s) u6) := ⟨by rw [hS]; exact hr6, by rw [hD]; exact hm6, hpm6, hpr6, hout6, by have := HS4.out; omega⟩
      have HPC : Hid (((nextC p s).pc : Int) = p.n) := hPC
      have HFU : Hid ((nextC p s).f = s.f) := hFU
      clear hr5 hm5 hpm5 hpr5 hout5 hrun L6 hpm6 hpr6 hm6 hr6 hout6 hS hD hPC hFU HN HL HFIT HA4
      go_wp2
      go_roundg (measC ps (nextC p s))
      case measure => exact HX.out.2
      case rel => exact ⟨nextC p s, rfl, HX.out.1, by rw [HFU.out], by rw [HPC.out], HY⟩
    have b7 : (p.op == 7) = false := by simpa using e7
    by_cases e8 : p.op = 8
    · have b8 : (p.op == 8) = true := by simp [e8]
      have HE8 : Hid (p.op = 8) := e8
      clear e8
      by_cases hf0 : s.f = 0
      · have hfl : (s.f : Int) < 1 := by omega
        have he := HL.out HE8.out hf0
        simp only [Prod.mk.injEq] at he
        have HE : Hid (s.d = d1 ∧ (1 : Int) = c1 ∧ 0 = f1) := he
        clear he hf0 HN HL
        have hrun := HA4.out.2.2.2.1.run 0 3 (show 0 + 3 ≤ 3 by decide)
        have r0 : u4.cell? ⟨PM + 1, 0, none⟩ = some (.slice none 0 0) := HA4.out.2.2.2.1.c 0 _ rfl
        have r1 : u4.cell? ⟨PM + 1, 1, none⟩ = some (.slice none 0 0) := HA4.out.2.2.2.1.c 1 _ rfl
        have r2 : u4.cell? ⟨PM + 1, 2, none⟩ = some (.slice none 0 0) := HA4.out.2.2.2.1.c 2 _ rfl
        have rf0 : u4.frozen? ⟨PM + 1, 0, none⟩ = false := HA4.out.2.2.2.1.f 0
        have rf1 : u4.frozen? ⟨PM + 1, 1, none⟩ = false := HA4.out.2.2.2.1.f 1
        have rf2 : u4.frozen? ⟨PM + 1, 2, none⟩ = false := HA4.out.2.2.2.1.f 2
        have HRUN : Hid (_ ∧ _) := hrun
        clear hop hrun
        go_wp2_with fail
        have hrun := HRUN.out
        obtain ⟨u6, hu6, L6⟩ : ∃ u6, ((u4.setCell ⟨PM + 1, 0, none⟩ (.slice pa la ca)).setCell ⟨PM + 1, 1, none⟩ (.slice pb lb cb)).setCell ⟨PM + 1, 2, none⟩ (.slice pc lc cc) = u6 ∧ LaidG u4 u6 (PM + 1) 0 [.slice pa la ca, .slice pb lb cb, .slice pc lc cc] := ⟨_, rfl, by
          have hl := laidG (w := u4) (B := PM + 1) (o := 0) [.slice pa la ca, .slice pb lb cb, .slice pc lc cc] hrun.1
          exact hl⟩
        rw [hu6]
        clear hu6 r0 r1 r2 rf0 rf1 rf2
        have V6 := L6.var HA4.out.2.2.2.1
        have hm6 := HA4.out.2.1.kept fun k q1 q2 => L6.block k (by omega)
        have ho6 : Out lo hi w u6 := by
          have hout := HA4.out.2.2.2.2.1
          have hB0 : Below 0 w u4 := ⟨hout.os, hout.tape, hout.output, hout.size, fun k hk => by omega⟩
          have hB1 := L6.below 0 w (Nat.zero_le _) hB0
          exact ⟨hB1.os, hB1.tape, hB1.output, hB1.size, fun k q1 q2 => by rw [HPM.out] at q1; exact (L6.block k (by omega)).trans (hout.block k q1 q2)⟩
        clear L6 hrun c0 c1' c2 i0 i1 i2 i3 HA4
        have k0 : u6.cell? ⟨PM + 1, 0, none⟩ = some (.slice pa la ca) := V6.c 0 _ rfl
        have k1 : u6.cell? ⟨PM + 1, 1, none⟩ = some (.slice pb lb cb) := V6.c 1 _ rfl
        have k2 : u6.cell? ⟨PM + 1, 2, none⟩ = some (.slice pc lc cc) := V6.c 2 _ rfl
        obtain ⟨rfl, rfl, rfl⟩ := HE.out
        clear HE
        go_wp2
        refine bodyPost_ret (v := .tuple #[.agg #[.slice pa la ca, .slice pb lb cb, .slice pc lc cc], .int .i64 1, .int .i64 0]) ?_ rfl ⟨rfl, hm6, ho6⟩
        simp [results, Tryz.results18, go_sem, k0, k1, k2]
      · have hfl : ¬ ((s.f : Int) < 1) := by omega
        clear hop
        go_wp2_with fail
        clear c0 c1' c2 i0 i1 i2 i3
        refine (l5Do_jump u4 pa pb pc ah la ca lb cb lc cc s.st.length ch p (.inr HE8.out)).mono ?_
        rintro e1 u5 ⟨rfl, g5⟩
        have hr5 := HA4.out.1.below g5 (Nat.le_refl _)
        have hm5 := HA4.out.2.1.below g5 (by have := HS4.out; omega)
        have hpm5 := HA4.out.2.2.1.below g5 (by have := HS4.out; omega)
        have hpr5 := HA4.out.2.2.2.1.below g5 (by have := HS4.out; omega)
        have hout5 := HA4.out.2.2.2.2.1.trans (.of_below (g5.mono (by have := HS4.out; omega)))
        have V5 := HA4.out.2.2.2.2.2.below g5 (by have := HS4.out; omega)
        have z5 := g5.size
        clear g5
        have hrun := hpm5.run 0 3 (show 0 + 3 ≤ 3 by decide)
        go_wp2_with (refine wpList_storeG Tryz.sizeOf28 (vs := [.slice pa la ca, .slice pb lb cb, .slice pc lc cc]) _ _ rfl rfl rfl rfl rfl three_one hrun.1 hrun.2 ?_)
        intro u6 L6
        have z6 := L6.size
        have hpm6 := L6.var hpm5
        have hpr6 := L6.other hpr5 (by omega)
        have hm6 := hm5.kept fun k q1 q2 => L6.block k (by omega)
        have hr6 := hr5.at_ fun g hg => L6.block g (by have := (hr5.lt g hg).1; omega)
        have hout6 : OutB lo hi PM w u6 := by
          have hB0 : Below 0 w u5 := ⟨hout5.os, hout5.tape, hout5.output, hout5.size, fun k hk => by omega⟩
          have hB1 := L6.below 0 w (Nat.zero_le _) hB0
          exact ⟨hB1.os, hB1.tape, hB1.output, hB1.size, fun k q1 q2 => (L6.block k (by omega)).trans (hout5.block k q1 q2)⟩
        have V6 := L6.other V5 (by have := HS4.out; omega)
        have i1 : u6.cell? ⟨X, 1, none⟩ = some (.int .i64 p.n) := V6.c 1 _ rfl
        clear V5 V6
        have HX : Hid ((SaneC ps D (nextC p s) ∧ runC ps (nextC p s) = (d1, c1, f1) ∧ (nextC p s).f ≤ 100) ∧ measC ps (nextC p s) < gk) := HN.out (by omega)
        have hS : (nextC p s).st = s.st := by unfold nextC stackI; simp [HE8.out]
        have hD : (nextC p s).d = s.d := by unfold nextC memI; simp [HE8.out]
        have hPC : ((nextC p s).pc : Int) = p.n := by
          have := (fit_back HFIT.out.1 HE8.out).2
          have hj : jumpsI p s.st = true := by unfold jumpsI; simp [b8]
          show ((if jumpsI p s.st then p.n.toNat else s.pc + 1 : Nat) : Int) = p.n
          rw [hj, if_pos rfl]; omega
        have hFU : ((nextC p s).f : Int) = (s.f : Int) - 1 := by
          show ((if p.op = 8 then s.f - 1 else s.f : Nat) : Int) = _
          rw [if_pos HE8.out]; omega
        have HY : Hid (RunL w lo hi PM [.slice pa la ca, .slice pb lb cb, .slice pc lc cc] [.slice none 0 0, .slice none 0 0, .slice none 0 0] (.slice ah s.st.length ch) (nextC p s) u6) := ⟨by rw [hS]; exact hr6, by rw [hD]; exact hm6, hpm6, hpr6, hout6, by have := HS4.out; omega⟩
        have HPC : Hid (((nextC p s).pc : Int) = p.n) := hPC
        have HFU : Hid (((nextC p s).f : Int) = (s.f : Int) - 1) := hFU
        clear hr5 hm5 hpm5 hpr5 hout5 hrun L6 hpm6 hpr6 hm6 hr6 hout6 hS hD hPC hFU HN HL HFIT HA4
        go_wp2
        go_roundg (measC ps (nextC p s))
        case measure => exact HX.out.2
        case rel => exact ⟨nextC p s, rfl, HX.out.1, by rw [HFU.out], by rw [HPC.out], HY⟩
    have b8 : (p.op == 8) = false := by simpa using e8
    by_cases e6 : p.op = 6
    · have b6 : (p.op == 6) = true := by simp [e6]
      have hn1 : 1 ≤ s.st.length := by
        have := HFIT.out.2.1
        unfold needI at this
        rw [if_pos (.inr e6)] at this
        omega
      have HE6 : Hid (p.op = 6) := e6
      clear e6
      obtain ⟨g, cap', hv', _, _, _, _, _⟩ := HA4.out.1.block (by omega)
      simp only [Value.slice.injEq, true_and] at hv'
      obtain ⟨rfl, rfl⟩ := hv'
      have ct : u4.cell? ⟨g, s.st.length - 1, none⟩ = some (.int .i64 (topI s.st)) := HA4.out.1.cellAt (by have := top_at (st := s.st) (k := s.st.length - 1) (by omega); exact this)
      have hcast : ((s.st.length : Int) - 1) = ((s.st.length - 1 : Nat) : Int) := by omega
      have hx1 : (s.st.length : Int) - 1 < (s.st.length : Int) := by omega
      have hx0 : 0 ≤ (s.st.length : Int) - 1 := by omega
      clear hop
      go_wp2_with fail
      refine (sOn_any (topI s.st) u4).mono ?_
      rintro e1 w9 ⟨rfl, h9⟩
      rw [h9]
      clear h9 w9
      clear ct hcast hx1 hx0
      by_cases ht0 : topI s.st = 0
      · have ht : (topI s.st != 0) = false := by simp [ht0]
        clear ht0
        go_wp2_with fail
        clear c0 c1' c2 i0 i1 i2 i3
        refine (l5Do_skip u4 pa pb pc la ca lb cb lc cc s.st.length ch g p HE6.out (by omega) hc1 hc2).mono ?_
        rintro e1 u5 ⟨rfl, g5⟩
        have hr5 := (HA4.out.1.cut (s.st.length - 1) (by omega)).below g5 (Nat.le_refl _)
        have hm5 := HA4.out.2.1.below g5 (by have := HS4.out; omega)
        have hpm5 := HA4.out.2.2.1.below g5 (by have := HS4.out; omega)
        have hpr5 := HA4.out.2.2.2.1.below g5 (by have := HS4.out; omega)
        have hout5 := HA4.out.2.2.2.2.1.trans (.of_below (g5.mono (by have := HS4.out; omega)))
        have V5 := HA4.out.2.2.2.2.2.below g5 (by have := HS4.out; omega)
        have z5 := g5.size
        clear g5
        have hrun := hpm5.run 0 3 (show 0 + 3 ≤ 3 by decide)
        go_wp2_with (refine wpList_storeG Tryz.sizeOf28 (vs := [.slice pa la ca, .slice pb lb cb, .slice pc lc cc]) _ _ rfl rfl rfl rfl rfl three_one hrun.1 hrun.2 ?_)
        intro u6 L6
        have z6 := L6.size
        have hpm6 := L6.var hpm5
        have hpr6 := L6.other hpr5 (by omega)
        have hm6 := hm5.kept fun k q1 q2 => L6.block k (by omega)
        have hr6 := hr5.at_ fun g hg => L6.block g (by have := (hr5.lt g hg).1; omega)
        have hout6 : OutB lo hi PM w u6 := by
          have hB0 : Below 0 w u5 := ⟨hout5.os, hout5.tape, hout5.output, hout5.size, fun k hk => by omega⟩
          have hB1 := L6.below 0 w (Nat.zero_le _) hB0
          exact ⟨hB1.os, hB1.tape, hB1.output, hB1.size, fun k q1 q2 => (L6.block k (by omega)).trans (hout5.block k q1 q2)⟩
        have V6 := L6.other V5 (by have := HS4.out; omega)
        have i1 : u6.cell? ⟨X, 1, none⟩ = some (.int .i64 p.n) := V6.c 1 _ rfl
        clear V5 V6
        have HX : Hid ((SaneC ps D (nextC p s) ∧ runC ps (nextC p s) = (d1, c1, f1) ∧ (nextC p s).f ≤ 100) ∧ measC ps (nextC p s) < gk) := HN.out (by have := HE6.out; omega)
        have hS : (nextC p s).st = s.st.take (s.st.length - 1) := by unfold nextC stackI; simp [HE6.out]
        have hD : (nextC p s).d = s.d := by unfold nextC memI; simp [HE6.out]
        have hPC : ((nextC p s).pc : Int) = p.n := by
          have := (fit_jump HFIT.out.1 (.inl HE6.out)).2.2
          have hj : jumpsI p s.st = true := by unfold jumpsI; simp [b6, ht]
          show ((if jumpsI p s.st then p.n.toNat else s.pc + 1 : Nat) : Int) = p.n
          rw [hj, if_pos rfl]; omega
        have hFU : (nextC p s).f = s.f := by unfold nextC; simp [HE6.out]
        have HY : Hid (RunL w lo hi PM [.slice pa la ca, .slice pb lb cb, .slice pc lc cc] [.slice none 0 0, .slice none 0 0, .slice none 0 0] (.slice (some ⟨g, 0, none⟩) (s.st.length - 1) ch) (nextC p s) u6) := ⟨by rw [hS]; exact hr6, by rw [hD]; exact hm6, hpm6, hpr6, hout6, by have := HS4.out; omega⟩
        have HPC : Hid (((nextC p s).pc : Int) = p.n) := hPC
        have HFU : Hid ((nextC p s).f = s.f) := hFU
        clear hr5 hm5 hpm5 hpr5 hout5 hrun L6 hpm6 hpr6 hm6 hr6 hout6 hS hD hPC hFU HN HL HFIT HA4
        go_wp2
        go_roundg (measC ps (nextC p s))
        case measure => exact HX.out.2
        case rel => exact ⟨nextC p s, rfl, HX.out.1, by rw [HFU.out], by rw [HPC.out], HY⟩
      · have ht : (topI s.st != 0) = true := by simp [ht0]
        clear ht0
        go_wp2_with fail
        clear c0 c1' c2 i0 i1 i2 i3
        refine (l5Do_skip u4 pa pb pc la ca lb cb lc cc s.st.length ch g p HE6.out (by omega) hc1 hc2).mono ?_
        rintro e1 u5 ⟨rfl, g5⟩
        have hr5 := (HA4.out.1.cut (s.st.length - 1) (by omega)).below g5 (Nat.le_refl _)
        have hm5 := HA4.out.2.1.below g5 (by have := HS4.out; omega)
        have hpm5 := HA4.out.2.2.1.below g5 (by have := HS4.out; omega)
        have hpr5 := HA4.out.2.2.2.1.below g5 (by have := HS4.out; omega)
        have hout5 := HA4.out.2.2.2.2.1.trans (.of_below (g5.mono (by have := HS4.out; omega)))
        have V5 := HA4.out.2.2.2.2.2.below g5 (by have := HS4.out; omega)
        have z5 := g5.size
        clear g5
        have hrun := hpm5.run 0 3 (show 0 + 3 ≤ 3 by decide)
        go_wp2_with (refine wpList_storeG Tryz.sizeOf28 (vs := [.slice pa la ca, .slice pb lb cb, .slice pc lc cc]) _ _ rfl rfl rfl rfl rfl three_one hrun.1 hrun.2 ?_)
        intro u6 L6
        have z6 := L6.size
        have hpm6 := L6.var hpm5
        have hpr6 := L6.other hpr5 (by omega)
        have hm6 := hm5.kept fun k q1 q2 => L6.block k (by omega)
        have hr6 := hr5.at_ fun g hg => L6.block g (by have := (hr5.lt g hg).1; omega)
        have hout6 : OutB lo hi PM w u6 := by
          have hB0 : Below 0 w u5 := ⟨hout5.os, hout5.tape, hout5.output, hout5.size, fun k hk => by omega⟩
          have hB1 := L6.below 0 w (Nat.zero_le _) hB0
          exact ⟨hB1.os, hB1.tape, hB1.output, hB1.size, fun k q1 q2 => (L6.block k (by omega)).trans (hout5.block k q1 q2)⟩
        have HX : Hid ((SaneC ps D (nextC p s) ∧ runC ps (nextC p s) = (d1, c1, f1) ∧ (nextC p s).f ≤ 100) ∧ measC ps (nextC p s) < gk) := HN.out (by have := HE6.out; omega)
        have hS : (nextC p s).st = s.st.take (s.st.length - 1) := by unfold nextC stackI; simp [HE6.out]
        have hD : (nextC p s).d = s.d := by unfold nextC memI; simp [HE6.out]
        have hPC : (nextC p s).pc = s.pc + 1 := by unfold nextC jumpsI; simp [b6, b7, b8, ht]
        have hFU : (nextC p s).f = s.f := by unfold nextC; simp [HE6.out]
        have HY : Hid (RunL w lo hi PM [.slice pa la ca, .slice pb lb cb, .slice pc lc cc] [.slice none 0 0, .slice none 0 0, .slice none 0 0] (.slice (some ⟨g, 0, none⟩) (s.st.length - 1) ch) (nextC p s) u6) := ⟨by rw [hS]; exact hr6, by rw [hD]; exact hm6, hpm6, hpr6, hout6, by have := HS4.out; omega⟩
        have HPC : Hid ((nextC p s).pc = s.pc + 1) := hPC
        have HFU : Hid ((nextC p s).f = s.f) := hFU
        clear hr5 hm5 hpm5 hpr5 hout5 hrun L6 hpm6 hpr6 hm6 hr6 hout6 hS hD hPC hFU HN HL HFIT HA4
        go_wp2
        go_roundg (measC ps (nextC p s))
        case measure => exact HX.out.2
        case rel => exact ⟨nextC p s, rfl, HX.out.1, by rw [HFU.out], by rw [HPC.out]; first | rfl | (simp; done) | (push_cast; rfl), HY⟩
    have b6 : (p.op == 6) = false := by simpa using e6
    clear hop
    go_wp2_with fail
    clear c0 c1' c2 i0 i1 i2 i3
    refine (l5Do_any u4 lo hi (PM + 2) s.pc ps.length pa pb pc la ca lb cb lc cc _ s.st p s.d HA4.out.1 (by have := HS4.out; omega) HA4.out.2.1 (by omega) HFIT.out.2.2 HFIT.out.1 HFIT.out.2.1 hl12).mono ?_
    rintro e1 u5 ⟨v5, rfl, hr5, hm5, ho5⟩
    have hpm5 := HA4.out.2.2.1.at_ (ho5.block PM (by omega) (.inr hhi))
    have hpr5 := HA4.out.2.2.2.1.at_ (ho5.block (PM + 1) (by omega) (.inr (by omega)))
    have hout5 := HA4.out.2.2.2.2.1.trans (⟨ho5.os, ho5.tape, ho5.output, ho5.size, fun k q1 q2 => ho5.block k (by omega) q2⟩ : OutB lo hi PM u4 u5)
    have z5 := ho5.size
    have hrun := hpm5.run 0 3 (show 0 + 3 ≤ 3 by decide)
    go_wp2_with (refine wpList_storeG Tryz.sizeOf28 (vs := [.slice pa la ca, .slice pb lb cb, .slice pc lc cc]) _ _ rfl rfl rfl rfl rfl three_one hrun.1 hrun.2 ?_)
    intro u6 L6
    have z6 := L6.size
    have hpm6 := L6.var hpm5
    have hpr6 := L6.other hpr5 (by omega)
    have hm6 := hm5.kept fun k q1 q2 => L6.block k (by omega)
    have hr6 := hr5.at_ fun g hg => L6.block g (by have := (hr5.lt g hg).1; omega)
    have hout6 : OutB lo hi PM w u6 := by
      have hB0 : Below 0 w u5 := ⟨hout5.os, hout5.tape, hout5.output, hout5.size, fun k hk => by omega⟩
      have hB1 := L6.below 0 w (Nat.zero_le _) hB0
      exact ⟨hB1.os, hB1.tape, hB1.output, hB1.size, fun k q1 q2 => (L6.block k (by omega)).trans (hout5.block k q1 q2)⟩
    have HX : Hid ((SaneC ps D (nextC p s) ∧ runC ps (nextC p s) = (d1, c1, f1) ∧ (nextC p s).f ≤ 100) ∧ measC ps (nextC p s) < gk) := HN.out (by omega)
    have hS : (nextC p s).st = stackI p s.d s.st := rfl
    have hD : (nextC p s).d = memI p s.d s.st := rfl
    have hPC : (nextC p s).pc = s.pc + 1 := by unfold nextC jumpsI; simp [b6, b7, b8]
    have hFU : (nextC p s).f = s.f := by unfold nextC; simp [e8]
    have HY : Hid (RunL w lo hi PM [.slice pa la ca, .slice pb lb cb, .slice pc lc cc] [.slice none 0 0, .slice none 0 0, .slice none 0 0] v5 (nextC p s) u6) := ⟨by rw [hS]; exact hr6, by rw [hD]; exact hm6, hpm6, hpr6, hout6, by have := HS4.out; omega⟩
    have HPC : Hid ((nextC p s).pc = s.pc + 1) := hPC
    have HFU : Hid ((nextC p s).f = s.f) := hFU
    clear hr5 hm5 hpm5 hpr5 hout5 hrun L6 hpm6 hpr6 hm6 hr6 hout6 hS hD hPC hFU HN HL HFIT HA4
    go_wp2
    go_roundg (measC ps (nextC p s))
    case measure => exact HX.out.2
    case rel => exact ⟨nextC p s, rfl, HX.out.1, by rw [HFU.out], by rw [HPC.out]; first | rfl | (simp; done) | (push_cast; rfl), HY⟩
end Go.Proofs.YtdhpbiplkjpiiaaGreatDoor
