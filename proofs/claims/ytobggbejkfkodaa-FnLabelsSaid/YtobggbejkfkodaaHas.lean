/-
  What a block holds, kept while what was there is kept. No program in sight.
-/
import Derived.Test.YtobggbejkfkodaaMem
import Derived.Test.YtobggbejkfkodaaLab
namespace Go.Proofs.Ytobggbejkfkodaa
set_option maxRecDepth 100000
open Go.RowKit

def Has (w : World) (g : Nat) (cs : List Value) : Prop := ∀ (j : Nat) (v : Value), cs[j]? = some v → w.cell? ⟨g, j, none⟩ = some v
theorem Has.below {w w' : World} {g : Nat} {cs : List Value} (h : Has w g cs) (hb : Below w.heap.size w w') : Has w' g cs := fun j v hj => (hb.cell (block_lt_of_cell (h j v hj))).trans (h j v hj)
theorem Has.new {w w1 : World} {cs : Array Value} {t : TypeId} (hb : Below (w.alloc (.cells cs t)).heap.size (w.alloc (.cells cs t)) w1) : Has w1 w.heap.size cs.toList := fun j v hj =>
  (hb.cell (by simp)).trans ((World.cell?_alloc_new _ _ _ _).trans (by simpa using hj))
theorem Has.new2 {w w1 : World} {cs ds : Array Value} {t s : TypeId} (hb : Below ((w.alloc (.cells cs t)).alloc (.cells ds s)).heap.size ((w.alloc (.cells cs t)).alloc (.cells ds s)) w1) : Has w1 w.heap.size cs.toList := Has.new (over_alloc hb)
theorem Has.new3 {w w1 : World} {cs ds : Array Value} {t s : TypeId} (hb : Below ((w.alloc (.cells cs t)).alloc (.cells ds s)).heap.size ((w.alloc (.cells cs t)).alloc (.cells ds s)) w1) : Has w1 (w.heap.size + 1) ds.toList := by
  have h := Has.new hb
  rwa [World.size_alloc] at h
theorem RdLab.drew {w : World} {v : Value} {l : Lab} (h : RdLab w v l) : RdLab w.drew v l := h
theorem OwnLab.alloc1 {base : Nat} {w : World} {v : Value} {l : Lab} (h : OwnLab base w v l) (o : Obj) : OwnLab base (w.alloc o) v l := h.below ((Below.refl _ _).alloc (Nat.le_refl _) o)
end Go.Proofs.Ytobggbejkfkodaa
