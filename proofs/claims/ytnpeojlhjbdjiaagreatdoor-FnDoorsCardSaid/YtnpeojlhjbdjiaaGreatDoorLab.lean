/-
  Labels in memory, and the laws' helpers on them: copies, sizes, equality, marks.
-/
import Derived.Test.YtnpeojlhjbdjiaaGreatDoorFlPart
import Derived.OneCell
namespace Go.Proofs.YtnpeojlhjbdjiaaGreatDoor
set_option maxRecDepth 100000
open Go.RowKit

/-- A label: its base, its parts. -/
structure Lab where
  base : Int
  parts : List (Int × Int)

def labEq (l m : Lab) : Bool := decide (l.base = m.base) && pteq l.parts m.parts
theorem labEq_rfl (l : Lab) : labEq l l = true := by simp [labEq, pteq_rfl]

/-- A value that reads as a label; one that the call owns. -/
def RdLab (w : World) (v : Value) (l : Lab) : Prop := ∃ A n c, v = .agg #[.int .i64 l.base, .slice A n c] ∧ l.parts.length = n ∧ n ≤ 1048576 ∧ n ≤ c ∧ c ≤ maxLen ∧ At w A (ptcells l.parts)
def OwnLab (base : Nat) (w : World) (v : Value) (l : Lab) : Prop := ∃ A n c, v = .agg #[.int .i64 l.base, .slice A n c] ∧ l.parts.length = n ∧ n ≤ 1048576 ∧ w.ownsRow base 80 2 (.slice A n c) n (ptcells l.parts)
/-- The row of a label's parts. -/
def labRow : Value → Value
  | .agg cs => cs.getD 1 (.slice none 0 0)
  | v => v

theorem RdLab.below {w w' : World} {v : Value} {l : Lab} (h : RdLab w v l) (hb : Below w.heap.size w w') : RdLab w' v l := by
  obtain ⟨A, n, c, rfl, hn, hl, hc, hm, ha⟩ := h
  exact ⟨A, n, c, rfl, hn, hl, hc, hm, ha.below hb⟩
theorem RdLab.alloc {w : World} {v : Value} {l : Lab} (h : RdLab w v l) (o : Obj) : RdLab (w.alloc o) v l := h.below ((Below.refl _ _).alloc (Nat.le_refl _) o)
theorem OwnLab.rd {base : Nat} {w : World} {v : Value} {l : Lab} (h : OwnLab base w v l) : RdLab w v l := by
  obtain ⟨A, n, c, rfl, hn, hl, ho⟩ := h
  obtain ⟨A', c', he, hc, hm, ha⟩ := own_at ho
  simp only [Value.slice.injEq, true_and] at he
  obtain ⟨rfl, rfl⟩ := he
  exact ⟨A, n, c, rfl, hn, hl, hc, hm, ha⟩
theorem OwnLab.below {base : Nat} {w w' : World} {v : Value} {l : Lab} (h : OwnLab base w v l) (hb : Below w.heap.size w w') : OwnLab base w' v l := by
  obtain ⟨A, n, c, rfl, hn, hl, ho⟩ := h
  exact ⟨A, n, c, rfl, hn, hl, own_below ho hb⟩
theorem OwnLab.lower {base base' : Nat} {w : World} {v : Value} {l : Lab} (h : OwnLab base w v l) (hb : base' ≤ base) : OwnLab base' w v l := by
  obtain ⟨A, n, c, rfl, hn, hl, ho⟩ := h
  exact ⟨A, n, c, rfl, hn, hl, own_lower ho hb⟩
/-- Another's row is written: this label stays. -/
theorem OwnLab.kept {base : Nat} {w w' : World} {v : Value} {l : Lab} {row : Option Nat} (h : OwnLab base w v l) (hg : w.grownBy w' row) (hne : ∀ k, row = some k → k < base) : OwnLab base w' v l := by
  obtain ⟨A, n, c, rfl, hn, hl, ho⟩ := h
  refine ⟨A, n, c, rfl, hn, hl, ho.kept hg ?_⟩
  cases hk : (Value.slice A n c).ownBlock with
  | none => exact .inl rfl
  | some k => exact .inr (fun e => by have := (ho.lt k hk).1; have := hne k e.symm; omega)

theorem over_alloc {w w' : World} {o : Obj} (hb : Below (w.alloc o).heap.size (w.alloc o) w') : Below w.heap.size w w' := ((Below.refl _ _).alloc (Nat.le_refl _) _).trans (hb.mono (by simp))
theorem OwnLab.over {base : Nat} {w w' : World} {v : Value} {l : Lab} {o : Obj} (h : OwnLab base w v l) (hb : Below (w.alloc o).heap.size (w.alloc o) w') : OwnLab base w' v l := h.below (over_alloc hb)
theorem RdLab.over {w w' : World} {v : Value} {l : Lab} {o : Obj} (h : RdLab w v l) (hb : Below (w.alloc o).heap.size (w.alloc o) w') : RdLab w' v l := h.below (over_alloc hb)
theorem OwnLab.row {base : Nat} {w : World} {v : Value} {l : Lab} (h : OwnLab base w v l) : ∀ k, (labRow v).ownBlock = some k → base ≤ k ∧ k < w.heap.size := by
  obtain ⟨A, n, c, rfl, hn, hl, ho⟩ := h
  exact ho.lt
/-- Another's row is written, wherever it lies. -/
theorem OwnLab.keptBy {base : Nat} {w w' : World} {v : Value} {l : Lab} {row : Option Nat} (h : OwnLab base w v l) (hg : w.grownBy w' row) (hne : ∀ k, (labRow v).ownBlock = some k → row ≠ some k) : OwnLab base w' v l := by
  obtain ⟨A, n, c, rfl, hn, hl, ho⟩ := h
  refine ⟨A, n, c, rfl, hn, hl, ho.kept hg ?_⟩
  cases hk : (Value.slice A n c).ownBlock with
  | none => exact .inl rfl
  | some k => exact .inr (fun e => hne k hk e.symm)
/-- The call returns a label of its own. -/
def RetLab (l : Lab) (w : World) (e : Ending) (w' : World) : Prop := ∃ v, e = .returned v ∧ OwnLab w.heap.size w' v l ∧ Below w.heap.size w w'

/-- .. and a bool beside it. -/
def RetLab2 (l : Lab) (b : Bool) (w : World) (e : Ending) (w' : World) : Prop := ∃ v, e = .returned (.tuple #[v, .bool b]) ∧ OwnLab w.heap.size w' v l ∧ Below w.heap.size w w'
theorem own_nil (base : Nat) (w : World) (b : Int) : OwnLab base w (.agg #[.int .i64 b, .slice none 0 0]) ⟨b, []⟩ := ⟨none, 0, 0, rfl, rfl, by omega, World.ownsRow_nil w base _ 2⟩
/-- A boxed label, behind a call that writes nothing that was there. -/
theorem box2 {w w1 : World} {a b : Value} {t : TypeId} (hb : Below (w.alloc (.cells #[a, b] t)).heap.size (w.alloc (.cells #[a, b] t)) w1) :
    w1.cell? ⟨w.heap.size, 0, none⟩ = some a ∧ w1.cell? ⟨w.heap.size, 1, none⟩ = some b ∧ w.heap.size < w1.heap.size ∧ Below w.heap.size w w1 :=
  ⟨(hb.cell (by simp)).trans (World.cell?_alloc_new _ _ _ 0), (hb.cell (by simp)).trans (World.cell?_alloc_new _ _ _ 1), by have := hb.size; simp at this; omega, ((Below.refl _ _).alloc (Nat.le_refl _) _).trans (hb.mono (by simp))⟩

/-- Two boxed labels, behind a call that writes nothing that was there. -/
theorem box4 {w w1 : World} {a b c d : Value} {t s : TypeId} (hb : Below ((w.alloc (.cells #[a, b] t)).alloc (.cells #[c, d] s)).heap.size ((w.alloc (.cells #[a, b] t)).alloc (.cells #[c, d] s)) w1) :
    (w1.cell? ⟨w.heap.size, 0, none⟩ = some a ∧ w1.cell? ⟨w.heap.size, 1, none⟩ = some b) ∧ (w1.cell? ⟨w.heap.size + 1, 0, none⟩ = some c ∧ w1.cell? ⟨w.heap.size + 1, 1, none⟩ = some d) ∧ w.heap.size + 1 < w1.heap.size ∧ Below w.heap.size w w1 :=
  ⟨⟨(hb.cell (by simp; omega)).trans (by simp [go_sem]), (hb.cell (by simp; omega)).trans (by simp [go_sem])⟩, ⟨(hb.cell (by simp)).trans (by simp [go_sem]), (hb.cell (by simp)).trans (by simp [go_sem])⟩, by have := hb.size; simp at this; omega,
    (((Below.refl _ _).alloc (Nat.le_refl _) _).alloc (by simp) _).trans (hb.mono (by simp; omega))⟩


/-- A label whose parts are marked. -/
def labMark (l : Lab) (k : Int) : Lab := ⟨l.base, ptmarks k l.parts.length⟩
/-- The call marks a label that the caller owns: its row alone is written. -/
def RetMarkLab (v : Value) (l : Lab) (base : Nat) (k : Int) (w : World) (e : Ending) (w' : World) : Prop :=
  e = .returned (.int .i64 (k + 2 * (l.parts.length : Int))) ∧ OwnLab base w' v (labMark l k) ∧ w.grownBy w' (labRow v).ownBlock

end Go.Proofs.YtnpeojlhjbdjiaaGreatDoor
