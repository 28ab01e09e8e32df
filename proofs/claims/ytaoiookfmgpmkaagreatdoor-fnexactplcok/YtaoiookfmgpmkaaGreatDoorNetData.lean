/-
  Nets as data: inputs, wires, drives, what is ok, in which order wires are told.
-/
import Derived.Test.YtaoiookfmgpmkaaGreatDoorGenKit
import Derived.Test.YtaoiookfmgpmkaaGreatDoorBlockData
import Derived.Test.YtaoiookfmgpmkaaGreatDoorAddrKit
namespace Go.Proofs.YtaoiookfmgpmkaaGreatDoor
open Go.ChangeShapes Go.WideShapes Go.ChangeAt Go.RowKit
set_option linter.unusedVariables false

/-- An input. -/
structure SrcD where
  kind : Int
  at_ : Int
  ak : Int
  aat : Int
  no : Bool
deriving DecidableEq

/-- A wire. -/
structure WireD where
  kind : Int
  n : Int
  a : SrcD
  b : SrcD
deriving DecidableEq

/-- A drive. -/
structure DriveD where
  tk : Int
  ta : Int
  wire : Int
deriving DecidableEq

structure NetD where
  ws : List WireD
  ds : List DriveD
deriving DecidableEq

def srcC (s : SrcD) : List Value := [.int .i64 s.kind, .int .i64 s.at_, .int .i64 s.ak, .int .i64 s.aat, .bool s.no]
def wireC (w : WireD) : List Value := [.int .i64 w.kind, .int .i64 w.n, .int .i64 w.a.kind, .int .i64 w.a.at_, .int .i64 w.a.ak, .int .i64 w.a.aat, .bool w.a.no, .int .i64 w.b.kind, .int .i64 w.b.at_, .int .i64 w.b.ak, .int .i64 w.b.aat, .bool w.b.no]
def driveC (d : DriveD) : List Value := [.int .i64 d.tk, .int .i64 d.ta, .int .i64 d.wire]
def blockC (b : BlockD) : List Value := [.int .i64 b.kind, .int .i64 b.n, .bool b.on, .bool b.was, .int .i64 b.t]

def SrcD.val (s : SrcD) : Value := .agg (srcC s).toArray
def WireD.val (w : WireD) : Value := .agg (wireC w).toArray
def DriveD.val (d : DriveD) : Value := .agg (driveC d).toArray

theorem srcC_one (s : SrcD) : ∀ v ∈ srcC s, v.oneCell' = true := by
  intro v hv; simp only [srcC, List.mem_cons, List.not_mem_nil, or_false] at hv
  rcases hv with rfl | rfl | rfl | rfl | rfl <;> rfl
theorem wireC_one (w : WireD) : ∀ v ∈ wireC w, v.oneCell' = true := by
  intro v hv; simp only [wireC, List.mem_cons, List.not_mem_nil, or_false] at hv
  rcases hv with rfl | rfl | rfl | rfl | rfl | rfl | rfl | rfl | rfl | rfl | rfl | rfl <;> rfl
theorem driveC_one (d : DriveD) : ∀ v ∈ driveC d, v.oneCell' = true := by
  intro v hv; simp only [driveC, List.mem_cons, List.not_mem_nil, or_false] at hv
  rcases hv with rfl | rfl | rfl <;> rfl
theorem blockC_one (b : BlockD) : ∀ v ∈ blockC b, v.oneCell' = true := by
  intro v hv; simp only [blockC, List.mem_cons, List.not_mem_nil, or_false] at hv
  rcases hv with rfl | rfl | rfl | rfl | rfl <;> rfl

def wireE : Elem WireD := ⟨wireC, 12, by decide, fun _ => rfl, wireC_one⟩
def driveE : Elem DriveD := ⟨driveC, 3, by decide, fun _ => rfl, driveC_one⟩
def blockE : Elem BlockD := ⟨blockC, 5, by decide, fun _ => rfl, blockC_one⟩
def boolE : Elem Bool := ⟨fun x => [.bool x], 1, by decide, fun _ => rfl, fun x v hv => by simp at hv; rw [hv]; rfl⟩

/-- A net that can be read. -/
def NI (w : World) (lo hi : Nat) (v : Value) (n : NetD) : Prop := ∃ a b, v = .agg #[a, b] ∧ GR wireE w lo hi a n.ws ∧ GR driveE w lo hi b n.ds

theorem NI.kept {w w' : World} {lo hi : Nat} {v : Value} {n : NetD} (h : NI w lo hi v n) (hk : ∀ k, lo ≤ k → k < hi → w'.heap[k]? = w.heap[k]?) : NI w' lo hi v n := by
  obtain ⟨a, b, hv, h1, h2⟩ := h; exact ⟨a, b, hv, h1.kept hk, h2.kept hk⟩
theorem NI.under {w w' : World} {lo hi n : Nat} {v : Value} {x : NetD} (h : NI w lo hi v x) (hb : Below n w w') (hn : hi ≤ n) : NI w' lo hi v x := h.kept fun k _ hk => hb.block k (by omega)
theorem NI.wide {w : World} {lo hi lo' hi' : Nat} {v : Value} {n : NetD} (h : NI w lo hi v n) (hl : lo' ≤ lo) (hh : hi ≤ hi') : NI w lo' hi' v n := by
  obtain ⟨a, b, hv, h1, h2⟩ := h; exact ⟨a, b, hv, h1.wide hl hh, h2.wide hl hh⟩

/-- A net that is owned, the wires apart from the drives. -/
def NOw (w : World) (lo hi : Nat) (v : Value) (n : NetD) : Prop := ∃ a b mid, v = .agg #[a, b] ∧ GO wireE w lo mid a n.ws ∧ GO driveE w mid hi b n.ds ∧ lo ≤ mid ∧ mid ≤ hi

theorem NOw.ni {w : World} {lo hi : Nat} {v : Value} {n : NetD} (h : NOw w lo hi v n) : NI w lo hi v n := by
  obtain ⟨a, b, mid, hv, h1, h2, h3, h4⟩ := h; exact ⟨a, b, hv, h1.gr.wide (Nat.le_refl _) h4, h2.gr.wide h3 (Nat.le_refl _)⟩
theorem NOw.kept {w w' : World} {lo hi : Nat} {v : Value} {n : NetD} (h : NOw w lo hi v n) (hk : ∀ k, lo ≤ k → k < hi → w'.heap[k]? = w.heap[k]?) : NOw w' lo hi v n := by
  obtain ⟨a, b, mid, hv, h1, h2, h3, h4⟩ := h
  exact ⟨a, b, mid, hv, h1.kept fun k h5 h6 => hk k h5 (by omega), h2.kept fun k h5 h6 => hk k (by omega) h6, h3, h4⟩
theorem NOw.under {w w' : World} {lo hi n : Nat} {v : Value} {x : NetD} (h : NOw w lo hi v x) (hb : Below n w w') (hn : hi ≤ n) : NOw w' lo hi v x := h.kept fun k _ hk => hb.block k (by omega)

theorem NI.below {w w' : World} {lo hi n : Nat} {v : Value} {x : NetD} (h : NI w lo hi v x) (hb : Below n w w') (hn : hi ≤ n) : NI w' lo hi v x := h.under hb hn
theorem NOw.below {w w' : World} {lo hi n : Nat} {v : Value} {x : NetD} (h : NOw w lo hi v x) (hb : Below n w w') (hn : hi ≤ n) : NOw w' lo hi v x := h.under hb hn
theorem NI.shape {w : World} {lo hi : Nat} {v : Value} {n : NetD} (h : NI w lo hi v n) : ∃ pa ca pb cb, v = .agg #[.slice pa n.ws.length ca, .slice pb n.ds.length cb] := by
  obtain ⟨a, b, rfl, h1, h2⟩ := h
  obtain ⟨ad, cap, rfl, _, _⟩ := h1.shape
  obtain ⟨ad', cap', rfl, _, _⟩ := h2.shape
  exact ⟨_, _, _, _, rfl⟩

/-- How many elements there are in a net. -/
def NetD.many (n : NetD) : Nat := n.ws.length + n.ds.length

/-! What is ok. -/

def noSrc : SrcD := ⟨0, 0, 0, 0, false⟩
def gateK (k : Int) : Bool := decide (11 ≤ k) && decide (k ≤ 13)
def twoK (k : Int) : Bool := gateK k || (k == 3 || k == 5)
/-- The input asks a wire, now or as it was. -/
def asksW (s : SrcD) : Bool := s.kind == 2 || s.kind == 3
def srcOk (s : SrcD) (n : Nat) : Bool :=
  if s.kind = 1 then addrOk ⟨s.ak, s.aat⟩ && s.at_ == 0
  else if s.kind = 2 ∨ s.kind = 3 then decide (0 ≤ s.at_) && (decide (s.at_ < n) && (s.ak == 0 && s.aat == 0))
  else false
/-- Its number is one that it may have. -/
def numW (w : WireD) : Bool := if gateK w.kind then w.n == 0 else numB w.kind w.n
def wireOk (w : WireD) (n : Nat) : Bool := numW w && (srcOk w.a n && (if twoK w.kind then srcOk w.b n else decide (w.b = noSrc)))
def driveOk (d : DriveD) (n : Nat) : Bool := addrOk ⟨d.tk, d.ta⟩ && (d.tk != 1 && (decide (0 ≤ d.wire) && decide (d.wire < n)))
/-- No two of the first drive one place. -/
def freshD (ds : List DriveD) (d : DriveD) : Bool := ds.all fun e => !(e.tk == d.tk && e.ta == d.ta)
def drivesOk (ds : List DriveD) (n : Nat) : Bool := (List.range ds.length).all fun i => match ds[i]? with | some d => driveOk d n && freshD (ds.take i) d | none => true

/-! The order. -/

/-- The input waits, while these have been told. -/
def waitsS (s : SrcD) (ord : List Nat) : Bool := s.kind == 2 && !(ord.contains s.at_.toNat)
def waitsW (w : WireD) (ord : List Nat) : Bool := waitsS w.a ord || waitsS w.b ord
/-- The wire is the next that may be told. -/
def canW (ws : List WireD) (ord : List Nat) (i : Nat) : Bool := match ws[i]? with | some w => !ord.contains i && !waitsW w ord | none => false
/-- The first that can be told. -/
def pickW (ws : List WireD) (ord : List Nat) : Option Nat := (List.range ws.length).find? (canW ws ord)
/-- Wires told, so many at most. -/
def tellW (ws : List WireD) : Nat → List Nat → List Nat
  | 0, ord => ord
  | k + 1, ord => match pickW ws ord with | none => ord | some i => tellW ws k (ord ++ [i])
def orderW (ws : List WireD) : List Nat := tellW ws ws.length []

def netOk (n : NetD) : Bool :=
  decide (n.ws.length ≤ 8) && (decide (n.ds.length ≤ 4) && (n.ws.all (fun w => wireOk w n.ws.length) && (drivesOk n.ds n.ws.length && decide ((orderW n.ws).length = n.ws.length))))

theorem pickW_some {ws : List WireD} {ord : List Nat} {i : Nat} (h : pickW ws ord = some i) : i < ws.length ∧ canW ws ord i = true := by
  unfold pickW at h
  exact ⟨by have := List.mem_of_find?_eq_some h; simpa using this, List.find?_some h⟩

theorem canW_not {ws : List WireD} {ord : List Nat} {i : Nat} (h : canW ws ord i = true) : i ∉ ord := by
  unfold canW at h
  split at h
  · simp only [Bool.and_eq_true, Bool.not_eq_true'] at h
    intro hm
    have := h.1
    simp [hm] at this
  · cases h

/-- What an order is while it is made: places of wires, each once. -/
structure OrdW (ws : List WireD) (ord : List Nat) : Prop where
  lt : ∀ i ∈ ord, i < ws.length
  nodup : ord.Nodup

theorem OrdW.next {ws : List WireD} {ord : List Nat} {i : Nat} (h : OrdW ws ord) (hp : pickW ws ord = some i) : OrdW ws (ord ++ [i]) := by
  obtain ⟨h1, h2⟩ := pickW_some hp
  have h3 := canW_not h2
  refine ⟨fun j hj => ?_, ?_⟩
  · rcases List.mem_append.mp hj with hj | hj
    · exact h.lt j hj
    · simp at hj; omega
  · rw [List.nodup_append]
    refine ⟨h.nodup, by simp, fun a ha b hb => ?_⟩
    simp at hb
    subst hb
    intro e
    subst e
    exact h3 ha

theorem ordW_nil (ws : List WireD) : OrdW ws [] := ⟨fun i hi => by simp at hi, List.nodup_nil⟩

theorem nodup_le : ∀ (n : Nat) (l : List Nat), (∀ i ∈ l, i < n) → l.Nodup → l.length ≤ n
  | 0, l, h1, _ => by
    cases l with
    | nil => exact Nat.le_refl _
    | cons a l => have := h1 a (by simp); omega
  | n + 1, l, h1, h2 => by
    by_cases hm : n ∈ l
    · have h3 := nodup_le n (l.erase n) (fun i hi => by
        rw [h2.mem_erase_iff] at hi
        have := h1 i hi.2
        have := hi.1
        omega) (h2.erase n)
      rw [List.length_erase_of_mem hm] at h3
      omega
    · have h3 := nodup_le n l (fun i hi => by
        have := h1 i hi
        have : i ≠ n := fun e => hm (e ▸ hi)
        omega) h2
      omega

theorem OrdW.le {ws : List WireD} {ord : List Nat} (h : OrdW ws ord) : ord.length ≤ ws.length := nodup_le _ _ h.lt h.nodup

theorem tellW_ord {ws : List WireD} : ∀ (k : Nat) (ord : List Nat), OrdW ws ord → OrdW ws (tellW ws k ord)
  | 0, ord, h => h
  | k + 1, ord, h => by
    rw [tellW]
    cases hp : pickW ws ord with
    | none => exact h
    | some i => exact tellW_ord k _ (h.next hp)

theorem orderW_ord (ws : List WireD) : OrdW ws (orderW ws) := tellW_ord _ _ (ordW_nil ws)

/-- How many rounds does not matter, once there are as many as wires that are left. -/
theorem tellW_more {ws : List WireD} : ∀ (k m : Nat) (ord : List Nat), OrdW ws ord → ws.length ≤ ord.length + k → ws.length ≤ ord.length + m → tellW ws k ord = tellW ws m ord
  | 0, 0, _, _, _, _ => rfl
  | 0, m + 1, ord, h, h1, _ => by
    rw [tellW, tellW]
    cases hp : pickW ws ord with
    | none => rfl
    | some i =>
      have := (h.next hp).le
      simp at this; omega
  | k + 1, 0, ord, h, _, h2 => by
    rw [tellW, tellW]
    cases hp : pickW ws ord with
    | none => rfl
    | some i =>
      have := (h.next hp).le
      simp at this; omega
  | k + 1, m + 1, ord, h, h1, h2 => by
    rw [tellW, tellW]
    cases hp : pickW ws ord with
    | none => rfl
    | some i => exact tellW_more k m _ (h.next hp) (by simp; omega) (by simp; omega)

theorem wireOk_two {w : WireD} {n : Nat} (h : wireOk w n = true) : srcOk w.a n = true ∧ (srcOk w.b n = true ∨ w.b = noSrc) := by
  unfold wireOk at h
  simp only [Bool.and_eq_true] at h
  refine ⟨h.2.1, ?_⟩
  have := h.2.2
  split at this
  · exact .inl this
  · exact .inr (by simpa using this)

theorem srcOk_wire {s : SrcD} {n : Nat} (h : srcOk s n = true) (hk : s.kind = 2 ∨ s.kind = 3) : 0 ≤ s.at_ ∧ s.at_ < n := by
  unfold srcOk at h
  rw [if_neg (by omega), if_pos hk] at h
  simp only [Bool.and_eq_true, decide_eq_true_eq] at h
  exact ⟨h.1, h.2.1⟩

theorem wireOk_at {w : WireD} {n : Nat} (h : wireOk w n = true) : (w.a.kind = 2 → 0 ≤ w.a.at_ ∧ w.a.at_ < n) ∧ (w.b.kind = 2 → 0 ≤ w.b.at_ ∧ w.b.at_ < n) := by
  obtain ⟨h1, h2⟩ := wireOk_two h
  refine ⟨fun hk => srcOk_wire h1 (.inl hk), fun hk => ?_⟩
  rcases h2 with h2 | h2
  · exact srcOk_wire h2 (.inl hk)
  · rw [h2] at hk; simp [noSrc] at hk
end Go.Proofs.YtaoiookfmgpmkaaGreatDoor
