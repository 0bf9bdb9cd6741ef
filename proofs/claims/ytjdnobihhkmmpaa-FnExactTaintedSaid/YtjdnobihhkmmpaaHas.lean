/-
  What a block holds, kept while what was there is kept. No program in sight.
-/
import Derived.Test.YtjdnobihhkmmpaaMem
import Derived.Test.YtjdnobihhkmmpaaLab
import Derived.Deep.DeepCutAuto
import Derived.Deep.CutRange
namespace Go.Proofs.Ytjdnobihhkmmpaa
set_option maxRecDepth 100000
open Go.RowKit

def Has (w : World) (g : Nat) (cs : List Value) : Prop := ∀ (j : Nat) (v : Value), cs[j]? = some v → w.cell? ⟨g, j, none⟩ = some v
theorem Has.below {w w' : World} {g : Nat} {cs : List Value} (h : Has w g cs) (hb : Below w.heap.size w w') : Has w' g cs := fun j v hj => (hb.cell (block_lt_of_cell (h j v hj))).trans (h j v hj)
theorem Has.new {w w1 : World} {cs : Array Value} {t : TypeId} (hb : Below (w.alloc (.cells cs t)).heap.size (w.alloc (.cells cs t)) w1) : Has w1 w.heap.size cs.toList := fun j v hj =>
  (hb.cell (by simp)).trans ((World.cell?_alloc_new _ _ _ _).trans (by simpa using hj))
theorem Has.new2 {w w1 : World} {cs ds : Array Value} {t s : TypeId} (hb : Below ((w.alloc (.cells cs t)).alloc (.cells ds s)).heap.size ((w.alloc (.cells cs t)).alloc (.cells ds s)) w1) : Has w1 w.heap.size cs.toList := Has.new (over_alloc hb)
/-- Three boxed labels, behind a call that writes nothing that was there. -/
theorem box6 {w w1 : World} {a b c d f g : Value} {t s r : TypeId} (hb : Below (((w.alloc (.cells #[a, b] t)).alloc (.cells #[c, d] s)).alloc (.cells #[f, g] r)).heap.size (((w.alloc (.cells #[a, b] t)).alloc (.cells #[c, d] s)).alloc (.cells #[f, g] r)) w1) :
    (w1.cell? ⟨w.heap.size, 0, none⟩ = some a ∧ w1.cell? ⟨w.heap.size, 1, none⟩ = some b) ∧ (w1.cell? ⟨w.heap.size + 1, 0, none⟩ = some c ∧ w1.cell? ⟨w.heap.size + 1, 1, none⟩ = some d) ∧ (w1.cell? ⟨w.heap.size + 1 + 1, 0, none⟩ = some f ∧ w1.cell? ⟨w.heap.size + 1 + 1, 1, none⟩ = some g) ∧ w.heap.size + 1 + 1 < w1.heap.size ∧ Below w.heap.size w w1 := by
  have h := over_alloc hb
  obtain ⟨h1, h2, h3, h4⟩ := box4 h
  refine ⟨h1, h2, ⟨(hb.cell (by simp)).trans (by simp [go_sem]), (hb.cell (by simp)).trans (by simp [go_sem])⟩, by have := hb.size; simp at this; omega, h4⟩
theorem Has.new3 {w w1 : World} {cs ds : Array Value} {t s : TypeId} (hb : Below ((w.alloc (.cells cs t)).alloc (.cells ds s)).heap.size ((w.alloc (.cells cs t)).alloc (.cells ds s)) w1) : Has w1 (w.heap.size + 1) ds.toList := by
  have h := Has.new hb
  rwa [World.size_alloc] at h
/-- A block's cell is written, below a label's own memory. -/
theorem OwnLab.past {base g i : Nat} {w : World} {v u : Value} {l : Lab} (h : OwnLab base w v l) (hg : g < base) : OwnLab base (w.setCell ⟨g, i, none⟩ u) v l := by
  obtain ⟨A, n, c, rfl, hn, hl, ho⟩ := h
  exact ⟨A, n, c, rfl, hn, hl, ownsRow_setCell_below ho (by simpa using hg) _⟩
theorem RdLab.drew {w : World} {v : Value} {l : Lab} (h : RdLab w v l) : RdLab w.drew v l := h
theorem OwnLab.alloc1 {base : Nat} {w : World} {v : Value} {l : Lab} (h : OwnLab base w v l) (o : Obj) : OwnLab base (w.alloc o) v l := h.below ((Below.refl _ _).alloc (Nat.le_refl _) o)
/-- A label's block, just laid: nothing in it yet. -/
structure Fresh (w : World) (g : Nat) : Prop where
  c0 : w.cell? ⟨g, 0, none⟩ = some (.int .i64 0)
  c1 : w.cell? ⟨g, 1, none⟩ = some (.slice none 0 0)
  f0 : w.frozen? ⟨g, 0, none⟩ = false
  f1 : w.frozen? ⟨g, 1, none⟩ = false
theorem Fresh.new {w w1 : World} {t : TypeId} (hb : Below (w.alloc (.cells #[.int .i64 0, .slice none 0 0] t)).heap.size (w.alloc (.cells #[.int .i64 0, .slice none 0 0] t)) w1) : Fresh w1 w.heap.size :=
  ⟨(hb.cell (by simp)).trans (World.cell?_alloc_new _ _ _ 0), (hb.cell (by simp)).trans (World.cell?_alloc_new _ _ _ 1), (hb.frozen (by simp)).trans (by simp [go_sem]), (hb.frozen (by simp)).trans (by simp [go_sem])⟩
theorem Fresh.below {w w1 : World} {g : Nat} (h : Fresh w g) (hb : Below w.heap.size w w1) : Fresh w1 g := by
  have hl := block_lt_of_cell h.c0
  exact ⟨(hb.cell hl).trans h.c0, (hb.cell (p := ⟨g, 1, none⟩) hl).trans h.c1, (hb.frozen hl).trans h.f0, (hb.frozen (p := ⟨g, 1, none⟩) hl).trans h.f1⟩
theorem below_dr {w w1 : World} {o : Obj} (hb : Below (w.drew.alloc o).heap.size (w.drew.alloc o) w1) : Below (w.alloc o).heap.size (w.alloc o) w1 := ⟨hb.os, hb.tape, hb.output, hb.size, hb.block⟩
/-- A region has left a label of the call's own in a block of its own, and a bool. -/
def Boxed (old : World) (l : Lab) (b : Bool) (sa sb : Value) (wx : World) : Prop :=
  ∃ (g : Nat) (A : Option Addr) (n c : Nat), sa = .pointer (some ⟨g, 0, none⟩) ∧ sb = .bool b ∧ Below old.heap.size old wx ∧ old.heap.size ≤ g ∧ wx.cell? ⟨g, 0, none⟩ = some (.int .i64 l.base) ∧ wx.cell? ⟨g, 1, none⟩ = some (.slice A n c) ∧ OwnLab old.heap.size wx (.agg #[.int .i64 l.base, .slice A n c]) l
theorem Boxed.stored {old w5 : World} {g base : Nat} {A : Option Addr} {n c : Nat} {l : Lab} {b : Bool} (hb : Below old.heap.size old w5) (hg : old.heap.size ≤ g) (hy : Fresh w5 g) (ho : OwnLab base w5 (.agg #[.int .i64 l.base, .slice A n c]) l) (hgb : g < base) :
    Boxed old l b (.pointer (some ⟨g, 0, none⟩)) (.bool b) ((w5.setCell ⟨g, 0, none⟩ (.int .i64 l.base)).setCell ⟨g, 1, none⟩ (.slice A n c)) :=
  ⟨g, A, n, c, rfl, rfl, (hb.setCell hg _).setCell hg _, hg, by simp [go_sem, hy.c0], by simp [go_sem, hy.c1], ((ho.past hgb).past hgb).lower (by omega)⟩
theorem Boxed.laid {old w5 : World} {base : Nat} {A : Option Addr} {n c : Nat} {l : Lab} {b : Bool} {t : TypeId} (hb : Below old.heap.size old w5) (ho : OwnLab base w5 (.agg #[.int .i64 l.base, .slice A n c]) l) (hbase : old.heap.size ≤ base) :
    Boxed old l b (.pointer (some ⟨w5.heap.size, 0, none⟩)) (.bool b) (w5.alloc (.cells #[.int .i64 l.base, .slice A n c] t)) :=
  ⟨w5.heap.size, A, n, c, rfl, rfl, hb.alloc hb.size _, hb.size, by simp, by simp, (ho.alloc1 _).lower hbase⟩
end Go.Proofs.Ytjdnobihhkmmpaa
