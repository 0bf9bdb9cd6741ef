/-
  The draws of one label in a block of its own: what the drawing keeps.
-/
import Derived.Test.YtnpeojlhjbdjiaaGreatDoorDrT
namespace Go.Proofs.YtnpeojlhjbdjiaaGreatDoor
set_option maxRecDepth 100000
open Go.RowKit

/-- A label in the making, in block g. -/
def DrL (m p : Nat) (a : Option Addr) (len cap g : Nat) (w wr : World) (l : Lab) (A : Option Addr) (n c : Nat) : Prop :=
  DrT p a len cap g w wr [.int .i64 0, .slice none 0 0] [.int .i64 l.base, .slice A n c] ∧ OffLab (w.heap.size + 1) g wr (.agg #[.int .i64 l.base, .slice A n c]) l ∧ l.parts.length ≤ m
section
variable {m p : Nat} {a : Option Addr} {len cap g : Nat} {w wr w' : World} {l : Lab} {A : Option Addr} {n c : Nat}
theorem DrL.cur (h : DrL m p a len cap g w wr l A n c) : IsCur p a len cap wr := h.1.cur
theorem DrL.grown (h : DrL m p a len cap g w wr l A n c) : w.grownBy wr (some p) := h.1.grown
theorem DrL.gbr (h : DrL m p a len cap g w wr l A n c) (hp : p < w.heap.size) (hc : IsCur p a len cap w') (hg : wr.grownBy w' (some p)) : DrL m p a len cap g w w' l A n c := ⟨h.1.gbr hp hc hg, h.2.1.gbr hg (by omega), h.2.2⟩
theorem DrL.below (h : DrL m p a len cap g w wr l A n c) (hp : p < w.heap.size) (hb : Below wr.heap.size wr w') : DrL m p a len cap g w w' l A n c := ⟨h.1.below hp hb, h.2.1.below hb, h.2.2⟩
theorem DrL.alloc (h : DrL m p a len cap g w wr l A n c) (hp : p < w.heap.size) (o : Obj) : DrL m p a len cap g w (wr.alloc o) l A n c := h.below hp ((Below.refl _ _).alloc (Nat.le_refl _) o)
theorem DrL.drew (h : DrL m p a len cap g w wr l A n c) (hp : p < w.heap.size) : DrL m p a len cap g w wr.drew l A n c := h.below hp (Below.refl _ _).drew
theorem DrL.put {m' : Nat} {l' : Lab} {A' : Option Addr} {n' c' : Nat} (h : DrL m p a len cap g w wr l A n c) (hp : p < w.heap.size) (ho : OffLab (w.heap.size + 1) g wr (.agg #[.int .i64 l'.base, .slice A' n' c']) l') (hm : l'.parts.length ≤ m') :
    DrL m' p a len cap g w ((wr.setCell ⟨g, 0, none⟩ (.int .i64 l'.base)).setCell ⟨g, 1, none⟩ (.slice A' n' c')) l' A' n' c' :=
  ⟨(h.1.set hp (by simp) _).set hp (by simp) _, ho.past.past, hm⟩
theorem DrL.rd (h : DrL m p a len cap g w wr l A n c) : RdLab wr (.agg #[.int .i64 l.base, .slice A n c]) l := h.2.1.1.rd
theorem DrL.done (h : DrL m p a len cap g w wr l A n c) (hp : p < w.heap.size) : DrawnLab m p a len cap w (.returned (.agg #[.int .i64 l.base, .slice A n c])) ((wr.setCell ⟨w.heap.size, 0, none⟩ (.int .i64 l.base)).setCell ⟨w.heap.size, 1, none⟩ (.slice A n c)) := by
  have d := And.intro h.1.cur h.1.grown
  have d := DrT.setr d hp (i := 0) (.int .i64 l.base)
  have d := DrT.setr d hp (i := 1) (.slice A n c)
  exact ⟨_, l, rfl, (h.2.1.out (by omega)).out (by omega) |>.1.lower (by omega), h.2.2, d.1, d.2⟩
theorem Has.gbr {t : Nat} {cs : List Value} (h : Has wr t cs) (hg : wr.grownBy w' (some p)) (hne : t ≠ p) : Has w' t cs := fun j v hj => keep_cell hg (h j v hj) hne
end
theorem pick5 {k : Nat} {x0 x1 x2 x3 x4 : Int} (hk : k < 5) : ∃ tv : Int, ([Value.int .i64 x0, .int .i64 x1, .int .i64 x2, .int .i64 x3, .int .i64 x4] : List Value)[k]? = some (.int .i64 tv) := by
  match k, hk with
  | 0, _ => exact ⟨_, rfl⟩
  | 1, _ => exact ⟨_, rfl⟩
  | 2, _ => exact ⟨_, rfl⟩
  | 3, _ => exact ⟨_, rfl⟩
  | 4, _ => exact ⟨_, rfl⟩
end Go.Proofs.YtnpeojlhjbdjiaaGreatDoor
