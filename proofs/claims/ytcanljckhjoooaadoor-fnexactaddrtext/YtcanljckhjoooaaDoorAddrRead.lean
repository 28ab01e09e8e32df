/-
  The program's AddrRead: it tries the text of each place.
-/
import Derived.Test.YtcanljckhjoooaaDoorAddrText
import Derived.Laws.ResultCell
namespace Go.Proofs.YtcanljckhjoooaaDoor
open Go.ChangeShapes Go.WideShapes Go.ChangeAt Go.RowKit
set_option linter.unusedVariables false

theorem read_text {k t : Int} (h1 : 1 ≤ k) (h2 : k ≤ 3) (h3 : 0 ≤ t) (h4 : t < 6) : addrRead (addrText ⟨k, t⟩) = (⟨k, t⟩, true) := by
  obtain rfl | rfl | rfl : k = 1 ∨ k = 2 ∨ k = 3 := by omega
  all_goals (obtain rfl | rfl | rfl | rfl | rfl | rfl := six_cases h3 h4) <;> decide

theorem text_two {s : ByteArray} (h : s.size = 2) : s = ⟨#[s[0]'(by omega), s[1]'(by omega)]⟩ := by
  obtain ⟨⟨l⟩⟩ := s
  match l, h with
  | [x, y], _ => rfl

theorem text_read {s : ByteArray} (h : (addrRead s).2 = true) : ∃ k t : Int, 1 ≤ k ∧ k ≤ 3 ∧ 0 ≤ t ∧ t < 6 ∧ s = addrText ⟨k, t⟩ := by
  unfold addrRead at h
  split at h
  · rename_i h2
    have e := text_two h2
    generalize s[0]'(by omega) = x at *
    generalize s[1]'(by omega) = y at *
    unfold addrOf at h
    split at h
    · rename_i hc
      obtain ⟨c1, c2, c3⟩ := hc
      have hx : x = 105 ∨ x = 111 ∨ x = 118 := by
        unfold letterKind at c3
        split at c3
        · rename_i hh; left; exact UInt8.toNat_inj.mp (by simpa using Int.ofNat.inj hh)
        · split at c3
          · rename_i hh; right; left; exact UInt8.toNat_inj.mp (by simpa using Int.ofNat.inj hh)
          · split at c3
            · rename_i hh; right; right; exact UInt8.toNat_inj.mp (by simpa using Int.ofNat.inj hh)
            · exact absurd rfl c3
      have hy : y = 48 ∨ y = 49 ∨ y = 50 ∨ y = 51 ∨ y = 52 ∨ y = 53 := by
        have : y.toNat = 48 ∨ y.toNat = 49 ∨ y.toNat = 50 ∨ y.toNat = 51 ∨ y.toNat = 52 ∨ y.toNat = 53 := by omega
        rcases this with h | h | h | h | h | h
        · left; exact UInt8.toNat_inj.mp h
        · right; left; exact UInt8.toNat_inj.mp h
        · right; right; left; exact UInt8.toNat_inj.mp h
        · right; right; right; left; exact UInt8.toNat_inj.mp h
        · right; right; right; right; left; exact UInt8.toNat_inj.mp h
        · right; right; right; right; right; exact UInt8.toNat_inj.mp h
      rw [e]
      clear e c1 c2 c3 h h2
      rcases hx with rfl | rfl | rfl
      · rcases hy with rfl | rfl | rfl | rfl | rfl | rfl
        · exact ⟨1, 0, by decide, by decide, by decide, by decide, by rfl⟩
        · exact ⟨1, 1, by decide, by decide, by decide, by decide, by rfl⟩
        · exact ⟨1, 2, by decide, by decide, by decide, by decide, by rfl⟩
        · exact ⟨1, 3, by decide, by decide, by decide, by decide, by rfl⟩
        · exact ⟨1, 4, by decide, by decide, by decide, by decide, by rfl⟩
        · exact ⟨1, 5, by decide, by decide, by decide, by decide, by rfl⟩
      · rcases hy with rfl | rfl | rfl | rfl | rfl | rfl
        · exact ⟨2, 0, by decide, by decide, by decide, by decide, by rfl⟩
        · exact ⟨2, 1, by decide, by decide, by decide, by decide, by rfl⟩
        · exact ⟨2, 2, by decide, by decide, by decide, by decide, by rfl⟩
        · exact ⟨2, 3, by decide, by decide, by decide, by decide, by rfl⟩
        · exact ⟨2, 4, by decide, by decide, by decide, by decide, by rfl⟩
        · exact ⟨2, 5, by decide, by decide, by decide, by decide, by rfl⟩
      · rcases hy with rfl | rfl | rfl | rfl | rfl | rfl
        · exact ⟨3, 0, by decide, by decide, by decide, by decide, by rfl⟩
        · exact ⟨3, 1, by decide, by decide, by decide, by decide, by rfl⟩
        · exact ⟨3, 2, by decide, by decide, by decide, by decide, by rfl⟩
        · exact ⟨3, 3, by decide, by decide, by decide, by decide, by rfl⟩
        · exact ⟨3, 4, by decide, by decide, by decide, by decide, by rfl⟩
        · exact ⟨3, 5, by decide, by decide, by decide, by decide, by rfl⟩
    · cases h
  · cases h

theorem toList_inj {x y : ByteArray} (h : x.toList = y.toList) : x = y := by
  rw [ByteArray.toList_eq, ByteArray.toList_eq] at h
  obtain ⟨⟨a⟩⟩ := x
  obtain ⟨⟨b⟩⟩ := y
  simp at h
  rw [h]

/-- No place ahead of this one has that text. -/
def NoneBefore (s : ByteArray) (k t : Int) : Prop := ∀ k' t' : Int, 1 ≤ k' → k' ≤ 3 → 0 ≤ t' → t' < 6 → (k' < k ∨ k' = k ∧ t' < t) → s ≠ addrText ⟨k', t'⟩

theorem none_read {s : ByteArray} (h : NoneBefore s 4 0) : addrRead s = (⟨0, 0⟩, false) := by
  have hf : (addrRead s).2 = false := by
    cases hq : (addrRead s).2 with
    | false => rfl
    | true =>
      obtain ⟨k, t, h1, h2, h3, h4, e⟩ := text_read hq
      exact absurd e (h k t h1 h2 h3 h4 (by omega))
  unfold addrRead at hf ⊢
  split
  · rename_i h2
    rw [dif_pos h2] at hf
    unfold addrOf at hf ⊢
    split
    · rename_i hc; rw [if_pos hc] at hf; cases hf
    · rfl
  · rfl

set_option maxHeartbeats 4000000 in
theorem iAddrRead_any (w : World) (s : ByteArray) :
    Calls Tryd.prog 9 #[.string s] w fun e w' => e = .returned (.tuple #[(addrRead s).1.val, .bool (addrRead s).2]) ∧ Below w.heap.size w w' := by
  go_enter Tryd.func9, Tryd.ntmps9
  go_wp2_with fail
  go_loopw [4] (fun i wr => ∃ k : Int, 1 ≤ k ∧ k ≤ 4 ∧ i = .int .i64 k ∧ Below w.heap.size w wr ∧ w.heap.size < wr.heap.size ∧ Zero 2 wr w.heap.size ∧ NoneBefore s k 0) (fun i _ => 4 - (intOf i).toNat)
  case atStart =>
    refine ⟨1, by omega, by omega, rfl, (Below.refl _ _).alloc (Nat.le_refl _) _, by simp, fun k hk => ?_, fun k' t' h1 h2 h3 h4 h5 => by omega⟩
    rw [World.cell?_alloc_new, World.frozen?_alloc_new]
    match k, hk with
    | 0, _ => exact ⟨rfl, rfl⟩
    | 1, _ => exact ⟨rfl, rfl⟩
  case round =>
    obtain ⟨k, k1, k2, rfl, hb, hs, hz, hn⟩ := hrel
    have HN : Hid (NoneBefore s k 0) := hn
    clear hn
    go_wp2_with fail
    refine (placeOk_any _ k).mono ?_
    by_cases hk : k = 4
    · rw [show kindOk k = false by simp [kindOk]; omega]
      rintro e w1 ⟨rfl, rfl⟩
      have HR : Hid (addrRead s = (⟨0, 0⟩, false)) := none_read (by have := HN.out; rwa [hk] at this)
      clear HN
      obtain ⟨z0, f0⟩ := hz 0 (by omega)
      obtain ⟨z1, f1⟩ := hz 1 (by omega)
      obtain ⟨x0, y0⟩ := Option.isSome_iff_exists.mp z0
      obtain ⟨x1, y1⟩ := Option.isSome_iff_exists.mp z1
      have c0 : ((w1.setCell ⟨w.heap.size, 0, none⟩ (.int .i64 0)).setCell ⟨w.heap.size, 1, none⟩ (.int .i64 0)).cell? ⟨w.heap.size, 0, none⟩ = some (.int .i64 0) := by rw [cell_set_other _ (.inr (by omega))]; exact World.cell?_setCell_same _ _ _ y0
      have c1 : ((w1.setCell ⟨w.heap.size, 0, none⟩ (.int .i64 0)).setCell ⟨w.heap.size, 1, none⟩ (.int .i64 0)).cell? ⟨w.heap.size, 1, none⟩ = some (.int .i64 0) := World.cell?_setCell_same _ _ _ (by rw [cell_set_other _ (.inr (by omega))]; exact y1)
      have HC : Hid (_ ∧ _) := And.intro c0 c1
      have HB : Hid (Below w.heap.size w ((w1.setCell ⟨w.heap.size, 0, none⟩ (.int .i64 0)).setCell ⟨w.heap.size, 1, none⟩ (.int .i64 0))) := (hb.setCell (Nat.le_refl _) _).setCell (Nat.le_refl _) _
      clear hz z0 z1 hb c0 c1
      go_wp2
      obtain ⟨c0, c1⟩ := HC.out
      exact bodyPost_ret (v := .tuple #[.agg #[.int .i64 0, .int .i64 0], .bool false]) (by simp [results, Tryd.results9, go_sem, c0, c1]) rfl ⟨by rw [HR.out]; rfl, HB.out⟩
    · rw [show kindOk k = true by simp [kindOk]; omega]
      rintro e w1 ⟨rfl, rfl⟩
      have k3 : k ≤ 3 := by omega
      go_wp2_with fail
      go_loopw [11] (fun i wr => ∃ t : Nat, t ≤ 6 ∧ i = .int .i64 t ∧ Below w.heap.size w wr ∧ w.heap.size < wr.heap.size ∧ Zero 2 wr w.heap.size ∧ NoneBefore s k t) (fun i _ => 6 - (intOf i).toNat)
      case atStart => exact ⟨0, by omega, rfl, hb, hs, hz, HN.out⟩
      case round =>
        clear hb hs hz HN
        rename_i wq
        obtain ⟨t, t6, rfl, hb, hs, hz, hn⟩ := hrel
        have HN : Hid (NoneBefore s k t) := hn
        clear hn
        by_cases ht : t < 6
        · have hta : addrOk ⟨k, t⟩ = true := by simp [addrOk]; omega
          go_wp2_with fail
          refine (iAddrText_any _ k t).mono ?_
          rintro e u1 ⟨rfl, g1⟩
          have b1 := (Below.refl wr.heap.size wr).alloc (Nat.le_refl _) (.cells #[.int .i64 k, .int .i64 t] 25)
          have G1 : Below w.heap.size w u1 := hb.trans ((below_two b1 g1).mono (by omega))
          have S1 : w.heap.size < u1.heap.size := by have := (below_two b1 g1).size; omega
          have Z1 : Zero 2 u1 w.heap.size := hz.grow (below_two b1 g1) hs
          have a0 : u1.cell? ⟨wr.heap.size, 0, none⟩ = some (.int .i64 k) := by rw [g1.cell (p := ⟨wr.heap.size, 0, none⟩) (by simp)]; exact World.cell?_alloc_new _ _ _ _
          have a1 : u1.cell? ⟨wr.heap.size, 1, none⟩ = some (.int .i64 t) := by rw [g1.cell (p := ⟨wr.heap.size, 1, none⟩) (by simp)]; exact World.cell?_alloc_new _ _ _ _
          clear g1 b1 hb hs hz
          by_cases es : addrText ⟨k, t⟩ = s
          · have e2 : ((addrText ⟨k, t⟩).toList == s.toList) = true := by rw [es]; simp
            have HR : Hid (addrRead s = (⟨k, t⟩, true)) := by show _ = _; rw [← es]; exact read_text k1 k3 (by omega) (by omega)
            obtain ⟨z0, f0⟩ := Z1 0 (by omega)
            obtain ⟨z1, f1⟩ := Z1 1 (by omega)
            obtain ⟨x0, y0⟩ := Option.isSome_iff_exists.mp z0
            obtain ⟨x1, y1⟩ := Option.isSome_iff_exists.mp z1
            have c0 : ((u1.setCell ⟨w.heap.size, 0, none⟩ (.int .i64 k)).setCell ⟨w.heap.size, 1, none⟩ (.int .i64 t)).cell? ⟨w.heap.size, 0, none⟩ = some (.int .i64 k) := by rw [cell_set_other _ (.inr (by omega))]; exact World.cell?_setCell_same _ _ _ y0
            have c1 : ((u1.setCell ⟨w.heap.size, 0, none⟩ (.int .i64 k)).setCell ⟨w.heap.size, 1, none⟩ (.int .i64 t)).cell? ⟨w.heap.size, 1, none⟩ = some (.int .i64 t) := World.cell?_setCell_same _ _ _ (by rw [cell_set_other _ (.inr (by omega))]; exact y1)
            have HC : Hid (_ ∧ _) := And.intro c0 c1
            have HB : Hid (Below w.heap.size w ((u1.setCell ⟨w.heap.size, 0, none⟩ (.int .i64 k)).setCell ⟨w.heap.size, 1, none⟩ (.int .i64 t))) := (G1.setCell (Nat.le_refl _) _).setCell (Nat.le_refl _) _
            clear Z1 z0 z1 G1 c0 c1 es
            go_wp2
            obtain ⟨c0, c1⟩ := HC.out
            exact bodyPost_ret (v := .tuple #[.agg #[.int .i64 k, .int .i64 t], .bool true]) (by simp [results, Tryd.results9, go_sem, c0, c1]) rfl ⟨by rw [HR.out]; rfl, HB.out⟩
          · have e2 : ((addrText ⟨k, t⟩).toList == s.toList) = false := beq_eq_false_iff_ne.mpr fun h => es (toList_inj h)
            have HM : Hid (NoneBefore s k ((t : Int) + 1)) := fun k' t' h1 h2 h3 h4 h5 => by
              by_cases eq : k' = k ∧ t' = t
              · obtain ⟨rfl, rfl⟩ := eq; exact fun h => es h.symm
              · exact HN.out k' t' h1 h2 h3 h4 (by omega)
            clear es a0 a1
            go_wp2
            go_roundw
            case rel => exact ⟨t + 1, by omega, by go_num, G1, S1, Z1, HM.out⟩
            case measure => simp [intOf]; omega
        · obtain rfl : t = 6 := by omega
          have HM : Hid (NoneBefore s (k + 1) 0) := fun k' t' h1 h2 h3 h4 h5 => HN.out k' t' h1 h2 h3 h4 (by omega)
          clear HN
          go_wp2
          go_roundw
          case rel => exact ⟨k + 1, by omega, by omega, by go_num, hb, hs, hz, HM.out⟩
          case measure => simp [intOf]; omega
end Go.Proofs.YtcanljckhjoooaaDoor
