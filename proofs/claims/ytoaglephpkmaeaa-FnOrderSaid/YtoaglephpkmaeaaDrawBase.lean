/-
  Words for the draws: what a draw hands out, and what it keeps.
-/
import Derived.Test.YtoaglephpkmaeaaCur2
import Derived.Test.YtoaglephpkmaeaaLab
import Derived.Test.YtoaglephpkmaeaaHas
namespace Go.Proofs.Ytoaglephpkmaeaa
set_option maxRecDepth 100000
open Go.RowKit

/-- A label, whatever, of at most m parts, of the call's own. -/
def DrawnLab (m p : Nat) (a : Option Addr) (len cap : Nat) (w : World) (e : Ending) (w' : World) : Prop :=
  ∃ v l, e = .returned v ∧ OwnLab w.heap.size w' v l ∧ l.parts.length ≤ m ∧ IsCur p a len cap w' ∧ w.grownBy w' (some p)

theorem new_frozen {w w1 : World} {cs : Array Value} {t : TypeId} {row : Option Nat} (hg : (w.alloc (.cells cs t)).grownBy w1 row) (hne : some w.heap.size ≠ row) (i : Nat) : w1.frozen? ⟨w.heap.size, i, none⟩ = false :=
  (World.frozen?_of_block (w := w.alloc (.cells cs t)) (hg.block w.heap.size (by rw [World.size_alloc]; omega) hne)).trans (World.frozen?_alloc_new _ _ _ i)
theorem gb_undrew {w w' : World} {row : Option Nat} (h : w.drew.grownBy w' row) : w.grownBy w' row := ⟨h.os, h.tape, h.output, h.size, h.block⟩
theorem gb_of_below {w w' : World} (h : Below w.heap.size w w') (row : Option Nat) : w.grownBy w' row := ⟨h.os, h.tape, h.output, h.size, fun b hb _ => h.block b hb⟩
/-- The call returns a label, whatever. -/
def DrLab (w : World) (e : Ending) (w' : World) : Prop := ∃ v l, e = .returned v ∧ RdLab w' v l ∧ l.parts.length ≤ 100 ∧ Below w.heap.size w w'
/-- .. and a number. -/
def DrLab1 (w : World) (e : Ending) (w' : World) : Prop := ∃ v l x, e = .returned (.tuple #[v, .int .i64 x]) ∧ OwnLab w.heap.size w' v l ∧ l.parts.length ≤ 100 ∧ Below w.heap.size w w'
/-- .. and two numbers. -/
def DrLab2 (w : World) (e : Ending) (w' : World) : Prop := ∃ v l x y, e = .returned (.tuple #[v, .int .i64 x, .int .i64 y]) ∧ RdLab w' v l ∧ l.parts.length ≤ 100 ∧ Below w.heap.size w w'
/-- The call returns two labels, whatever. -/
def DrLabs (w : World) (e : Ending) (w' : World) : Prop := ∃ v u l m, e = .returned (.tuple #[v, u]) ∧ RdLab w' v l ∧ l.parts.length ≤ 100 ∧ RdLab w' u m ∧ m.parts.length ≤ 100 ∧ Below w.heap.size w w'
def DrNum (w : World) (e : Ending) (w' : World) : Prop := ∃ x, e = .returned (.int .i64 x) ∧ Below w.heap.size w w'

theorem gb_below {w w1 w2 : World} {p : Nat} (h : Below w.heap.size w w1) (hg : w1.grownBy w2 (some p)) (hp : w.heap.size ≤ p) : Below w.heap.size w w2 := h.grown hg h.size (fun k hk => by have := Option.some.inj hk; omega)

theorem keep_frozen {w1 w2 : World} {g i p : Nat} (hg : w1.grownBy w2 (some p)) (hl : g < w1.heap.size) (hne : g ≠ p) : w2.frozen? ⟨g, i, none⟩ = w1.frozen? ⟨g, i, none⟩ :=
  World.frozen?_of_block (w := w1) (hg.block g hl (fun e => hne (Option.some.inj e)))
theorem keep_cell {w1 w2 : World} {g i p : Nat} {v : Value} (hg : w1.grownBy w2 (some p)) (h : w1.cell? ⟨g, i, none⟩ = some v) (hne : g ≠ p) : w2.cell? ⟨g, i, none⟩ = some v :=
  hg.cell h (fun e => hne (Option.some.inj e))


theorem Has.kept {w w' : World} {g p : Nat} {cs : List Value} (h : Has w g cs) (hg : w.grownBy w' (some p)) (hne : g ≠ p) : Has w' g cs := fun j v hj => keep_cell hg (h j v hj) hne
theorem Fresh.kept {w w' : World} {g p : Nat} (h : Fresh w g) (hg : w.grownBy w' (some p)) (hne : g ≠ p) : Fresh w' g := by
  have hl := block_lt_of_cell h.c0
  exact ⟨keep_cell hg h.c0 hne, keep_cell hg h.c1 hne, (keep_frozen hg hl hne).trans h.f0, (keep_frozen hg hl hne).trans h.f1⟩
theorem Fresh.one {w : World} {t : TypeId} : Fresh (w.alloc (.cells #[.int .i64 0, .slice none 0 0] t)) w.heap.size := Fresh.new (Below.refl _ _)
theorem Fresh.alloc {w : World} {g : Nat} (h : Fresh w g) (o : Obj) : Fresh (w.alloc o) g := h.below ((Below.refl _ _).alloc (Nat.le_refl _) o)
theorem Has.one {w : World} {cs : Array Value} {t : TypeId} : Has (w.alloc (.cells cs t)) w.heap.size cs.toList := Has.new (Below.refl _ _)
theorem Has.alloc {w : World} {g : Nat} {cs : List Value} (h : Has w g cs) (o : Obj) : Has (w.alloc o) g cs := h.below ((Below.refl _ _).alloc (Nat.le_refl _) o)
end Go.Proofs.Ytoaglephpkmaeaa
