/-
  Instructions (Ins) as data, and how lists of them lie in memory: NR: lists that can be read; NO: lists that are owned.
-/
import Derived.Test.YtdhpbiplkjpiiaaGreatDoorAddrKit
import Derived.Test.YtdhpbiplkjpiiaaGreatDoorOutKit
namespace Go.Proofs.YtdhpbiplkjpiiaaGreatDoor
open Go.ChangeShapes Go.WideShapes Go.ChangeAt Go.RowKit
set_option linter.unusedVariables false

/-- An instruction. -/
structure InsD where
  op : Int
  n : Int
  ak : Int
  at_ : Int
deriving DecidableEq

def InsD.val (p : InsD) : Value := .agg #[.int .i64 p.op, .int .i64 p.n, .int .i64 p.ak, .int .i64 p.at_]

/-- The four cells of an instruction. -/
structure CellI (w : World) (b o : Nat) (p : InsD) : Prop where
  c0 : w.cell? ⟨b, o, none⟩ = some (.int .i64 p.op)
  c1 : w.cell? ⟨b, o + 1, none⟩ = some (.int .i64 p.n)
  c2 : w.cell? ⟨b, o + 2, none⟩ = some (.int .i64 p.ak)
  c3 : w.cell? ⟨b, o + 3, none⟩ = some (.int .i64 p.at_)

theorem CellI.kept {w w' : World} {b o : Nat} {p : InsD} (h : CellI w b o p) (hk : w'.heap[b]? = w.heap[b]?) : CellI w' b o p :=
  ⟨by rw [World.cell?_of_block (w := w) hk]; exact h.c0, by rw [World.cell?_of_block (w := w) hk]; exact h.c1, by rw [World.cell?_of_block (w := w) hk]; exact h.c2, by rw [World.cell?_of_block (w := w) hk]; exact h.c3⟩

/-- Code that can be read, in the blocks from lo to hi. -/
def NR (w : World) (lo hi : Nat) (v : Value) (ps : List InsD) : Prop :=
  ∃ ad cap, v = .slice ad ps.length cap ∧ ps.length ≤ cap ∧ cap ≤ maxLen ∧
    (ps = [] ∨ ∃ b off, ad = some ⟨b, off, none⟩ ∧ lo ≤ b ∧ b < hi ∧ ∀ i p, ps[i]? = some p → CellI w b (off + i * 4) p)

/-- Code that is owned: its cells may be written. -/
def NO (w : World) (lo hi : Nat) (v : Value) (ps : List InsD) : Prop :=
  ps = [] ∧ (∃ ad cap, v = .slice ad 0 cap ∧ cap ≤ maxLen) ∨
  ∃ b off cap, v = .slice (some ⟨b, off, none⟩) ps.length cap ∧ ps.length ≤ cap ∧ cap ≤ maxLen ∧ lo ≤ b ∧ b < hi ∧ (∀ i p, ps[i]? = some p → CellI w b (off + i * 4) p) ∧ ∀ o, w.frozen? ⟨b, off + o, none⟩ = false

theorem NR.shape {w : World} {lo hi : Nat} {v : Value} {ps : List InsD} (h : NR w lo hi v ps) : ∃ ad cap, v = .slice ad ps.length cap ∧ ps.length ≤ cap ∧ cap ≤ maxLen := by
  obtain ⟨ad, cap, hv, h1, h2, _⟩ := h; exact ⟨ad, cap, hv, h1, h2⟩

theorem NR.at_ {w : World} {lo hi : Nat} {v : Value} {ps : List InsD} (h : NR w lo hi v ps) {i : Nat} {p : InsD} (hi' : ps[i]? = some p) :
    ∃ b off cap, v = .slice (some ⟨b, off, none⟩) ps.length cap ∧ lo ≤ b ∧ b < hi ∧ CellI w b (off + i * 4) p := by
  obtain ⟨ad, cap, hv, h1, h2, h3⟩ := h
  rcases h3 with rfl | ⟨b, off, rfl, h3, h4, hc⟩
  · simp at hi'
  · exact ⟨b, off, cap, hv, h3, h4, hc i p hi'⟩

theorem NR.kept {w w' : World} {lo hi : Nat} {v : Value} {ps : List InsD} (h : NR w lo hi v ps) (hk : ∀ k, lo ≤ k → k < hi → w'.heap[k]? = w.heap[k]?) : NR w' lo hi v ps := by
  obtain ⟨ad, cap, hv, h1, h2, h3⟩ := h
  refine ⟨ad, cap, hv, h1, h2, h3.imp id ?_⟩
  rintro ⟨b, off, ha, h3, h4, hc⟩
  exact ⟨b, off, ha, h3, h4, fun i p hp => (hc i p hp).kept (hk b h3 h4)⟩

theorem NR.under {w w' : World} {lo hi n : Nat} {v : Value} {ps : List InsD} (h : NR w lo hi v ps) (hb : Below n w w') (hn : hi ≤ n) : NR w' lo hi v ps :=
  h.kept fun k _ hk => hb.block k (by omega)

theorem NR.wide {w : World} {lo hi lo' hi' : Nat} {v : Value} {ps : List InsD} (h : NR w lo hi v ps) (hl : lo' ≤ lo) (hh : hi ≤ hi') : NR w lo' hi' v ps := by
  obtain ⟨ad, cap, hv, h1, h2, h3⟩ := h
  refine ⟨ad, cap, hv, h1, h2, h3.imp id ?_⟩
  rintro ⟨b, off, ha, h3, h4, hc⟩
  exact ⟨b, off, ha, by omega, by omega, hc⟩

theorem NO.nr {w : World} {lo hi : Nat} {v : Value} {ps : List InsD} (h : NO w lo hi v ps) : NR w lo hi v ps := by
  rcases h with ⟨rfl, ad, cap, rfl, hm⟩ | ⟨b, off, cap, hv, h1, h2, h3, h4, h5, _⟩
  · exact ⟨ad, cap, rfl, Nat.zero_le _, hm, .inl rfl⟩
  · exact ⟨_, cap, hv, h1, h2, .inr ⟨b, off, rfl, h3, h4, h5⟩⟩

theorem NO.kept {w w' : World} {lo hi : Nat} {v : Value} {ps : List InsD} (h : NO w lo hi v ps) (hk : ∀ k, lo ≤ k → k < hi → w'.heap[k]? = w.heap[k]?) : NO w' lo hi v ps := by
  rcases h with h | ⟨b, off, cap, hv, h1, h2, h3, h4, h5, h6⟩
  · exact .inl h
  · exact .inr ⟨b, off, cap, hv, h1, h2, h3, h4, fun i p hp => (h5 i p hp).kept (hk b h3 h4), fun o => by rw [World.frozen?_of_block (w := w) (hk b h3 h4)]; exact h6 o⟩

theorem NO.under {w w' : World} {lo hi n : Nat} {v : Value} {ps : List InsD} (h : NO w lo hi v ps) (hb : Below n w w') (hn : hi ≤ n) : NO w' lo hi v ps :=
  h.kept fun k _ hk => hb.block k (by omega)

theorem NO.wide {w : World} {lo hi lo' hi' : Nat} {v : Value} {ps : List InsD} (h : NO w lo hi v ps) (hl : lo' ≤ lo) (hh : hi ≤ hi') : NO w lo' hi' v ps := by
  rcases h with h | ⟨b, off, cap, hv, h1, h2, h3, h4, h5, h6⟩
  · exact .inl h
  · exact .inr ⟨b, off, cap, hv, h1, h2, by omega, by omega, h5, h6⟩

/-- A variable of four cells that may be written. -/
structure FourI (u : World) (V : Nat) (p : InsD) : Prop where
  c : CellI u V 0 p
  f : ∀ o, u.frozen? ⟨V, o, none⟩ = false

theorem fourI_new (u : World) (p : InsD) (ty : TypeId) : FourI (u.alloc (.cells #[.int .i64 p.op, .int .i64 p.n, .int .i64 p.ak, .int .i64 p.at_] ty)) u.heap.size p :=
  ⟨⟨World.cell?_alloc_new _ _ _ _, World.cell?_alloc_new _ _ _ _, World.cell?_alloc_new _ _ _ _, World.cell?_alloc_new _ _ _ _⟩, fun o => World.frozen?_alloc_new _ _ _ _⟩

theorem CellI.below {w w' : World} {b o n : Nat} {p : InsD} (h : CellI w b o p) (hb : Below n w w') (hn : b < n) : CellI w' b o p := h.kept (hb.block b hn)

theorem szInsS_any (w : World) (lo hi : Nat) (v : Value) (ps : List InsD) (left : Int) (h : NR w lo hi v ps) (hl : 0 ≤ left) (hl' : left ≤ 1048576) :
    Calls Tryz.prog 5 #[v, .int .i64 left] w fun e w' => e = .returned (.int .i64 (if left < ps.length then -1 else left - ps.length)) ∧ w' = w := by
  obtain ⟨a, cap, rfl, h1, h2⟩ := h.shape
  clear h
  unfold maxLen at h2
  by_cases h : left < ps.length
  · rw [if_pos h]
    go_enter Tryz.func5, Tryz.ntmps5
    go_wp2
    go_ret
    exact ⟨rfl, rfl⟩
  · rw [if_neg h]
    go_enter Tryz.func5, Tryz.ntmps5
    go_wp2
    go_ret
    exact ⟨rfl, rfl⟩
end Go.Proofs.YtdhpbiplkjpiiaaGreatDoor
