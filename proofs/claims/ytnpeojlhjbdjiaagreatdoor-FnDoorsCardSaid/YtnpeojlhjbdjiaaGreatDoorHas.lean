/-
  Texts put together: Has, Bld, Mk, Box. What each proves stands ahead of it.
-/
import Derived.Test.YtnpeojlhjbdjiaaGreatDoorMem
import Derived.Test.YtnpeojlhjbdjiaaGreatDoorLab
import Derived.Deep.DeepCutAuto
import Derived.Deep.CutRange
import Derived.Test.YtnpeojlhjbdjiaaGreatDoorPure
import Derived.RangeFuncFrom
/-
  What a block holds, kept while what was there is kept. No program in sight.
-/
namespace Go.Proofs.YtnpeojlhjbdjiaaGreatDoor
set_option maxRecDepth 100000
open Go.RowKit

def Has (w : World) (g : Nat) (cs : List Value) : Prop := ∀ (j : Nat) (v : Value), cs[j]? = some v → w.cell? ⟨g, j, none⟩ = some v
theorem Has.below {w w' : World} {g : Nat} {cs : List Value} (h : Has w g cs) (hb : Below w.heap.size w w') : Has w' g cs := fun j v hj => (hb.cell (block_lt_of_cell (h j v hj))).trans (h j v hj)
theorem Has.new {w w1 : World} {cs : Array Value} {t : TypeId} (hb : Below (w.alloc (.cells cs t)).heap.size (w.alloc (.cells cs t)) w1) : Has w1 w.heap.size cs.toList := fun j v hj =>
  (hb.cell (by simp)).trans ((World.cell?_alloc_new _ _ _ _).trans (by simpa using hj))
theorem Has.new2 {w w1 : World} {cs ds : Array Value} {t s : TypeId} (hb : Below ((w.alloc (.cells cs t)).alloc (.cells ds s)).heap.size ((w.alloc (.cells cs t)).alloc (.cells ds s)) w1) : Has w1 w.heap.size cs.toList := Has.new (over_alloc hb)
/-- Three boxed labels, behind a call that writes nothing that was there. -/
theorem box6 {w w1 : World} {a b c d f g : Value} {t s r : TypeId} (hb : Below (((w.alloc (.cells #[a, b] t)).alloc (.cells #[c, d] s)).alloc (.cells #[f, g] r)).heap.size (((w.alloc (.cells #[a, b] t)).alloc (.cells #[c, d] s)).alloc (.cells #[f, g] r)) w1) :
    (w1.cell? ⟨w.heap.size, 0, none⟩ = some a ∧ w1.cell? ⟨w.heap.size, 1, none⟩ = some b) ∧ (w1.cell? ⟨w.heap.size + 1, 0, none⟩ = some c ∧ w1.cell? ⟨w.heap.size + 1, 1, none⟩ = some d) ∧ (w1.cell? ⟨w.heap.size + 1 + 1, 0, none⟩ = some f ∧ w1.cell? ⟨w.heap.size + 1 + 1, 1, none⟩ = some g) ∧ w.heap.size + 1 + 1 < w1.heap.size ∧ Below w.heap.size w w1 := by
  have h := over_alloc hb
  obtain ⟨h1, h2, h3, h4⟩ := box4 h
  refine ⟨h1, h2, ⟨(hb.cell (by simp)).trans (by simp [go_sem]), (hb.cell (by simp)).trans (by simp [go_sem])⟩, by have := hb.size; simp at this; omega, h4⟩
theorem Has.new3 {w w1 : World} {cs ds : Array Value} {t s : TypeId} (hb : Below ((w.alloc (.cells cs t)).alloc (.cells ds s)).heap.size ((w.alloc (.cells cs t)).alloc (.cells ds s)) w1) : Has w1 (w.heap.size + 1) ds.toList := by
  have h := Has.new hb
  rwa [World.size_alloc] at h
/-- A block's cell is written, below a label's own memory. -/
theorem OwnLab.past {base g i : Nat} {w : World} {v u : Value} {l : Lab} (h : OwnLab base w v l) (hg : g < base) : OwnLab base (w.setCell ⟨g, i, none⟩ u) v l := by
  obtain ⟨A, n, c, rfl, hn, hl, ho⟩ := h
  exact ⟨A, n, c, rfl, hn, hl, ownsRow_setCell_below ho (by simpa using hg) _⟩
theorem RdLab.drew {w : World} {v : Value} {l : Lab} (h : RdLab w v l) : RdLab w.drew v l := h
theorem OwnLab.alloc1 {base : Nat} {w : World} {v : Value} {l : Lab} (h : OwnLab base w v l) (o : Obj) : OwnLab base (w.alloc o) v l := h.below ((Below.refl _ _).alloc (Nat.le_refl _) o)
/-- A label's block, just laid: nothing in it yet. -/
structure Fresh (w : World) (g : Nat) : Prop where
  c0 : w.cell? ⟨g, 0, none⟩ = some (.int .i64 0)
  c1 : w.cell? ⟨g, 1, none⟩ = some (.slice none 0 0)
  f0 : w.frozen? ⟨g, 0, none⟩ = false
  f1 : w.frozen? ⟨g, 1, none⟩ = false
theorem Fresh.new {w w1 : World} {t : TypeId} (hb : Below (w.alloc (.cells #[.int .i64 0, .slice none 0 0] t)).heap.size (w.alloc (.cells #[.int .i64 0, .slice none 0 0] t)) w1) : Fresh w1 w.heap.size :=
  ⟨(hb.cell (by simp)).trans (World.cell?_alloc_new _ _ _ 0), (hb.cell (by simp)).trans (World.cell?_alloc_new _ _ _ 1), (hb.frozen (by simp)).trans (by simp [go_sem]), (hb.frozen (by simp)).trans (by simp [go_sem])⟩
theorem Fresh.below {w w1 : World} {g : Nat} (h : Fresh w g) (hb : Below w.heap.size w w1) : Fresh w1 g := by
  have hl := block_lt_of_cell h.c0
  exact ⟨(hb.cell hl).trans h.c0, (hb.cell (p := ⟨g, 1, none⟩) hl).trans h.c1, (hb.frozen hl).trans h.f0, (hb.frozen (p := ⟨g, 1, none⟩) hl).trans h.f1⟩
theorem below_dr {w w1 : World} {o : Obj} (hb : Below (w.drew.alloc o).heap.size (w.drew.alloc o) w1) : Below (w.alloc o).heap.size (w.alloc o) w1 := ⟨hb.os, hb.tape, hb.output, hb.size, hb.block⟩
/-- A region has left a label of the call's own in a block of its own, and a bool. -/
def Boxed (old : World) (l : Lab) (b : Bool) (sa sb : Value) (wx : World) : Prop :=
  ∃ (g : Nat) (A : Option Addr) (n c : Nat), sa = .pointer (some ⟨g, 0, none⟩) ∧ sb = .bool b ∧ Below old.heap.size old wx ∧ old.heap.size ≤ g ∧ wx.cell? ⟨g, 0, none⟩ = some (.int .i64 l.base) ∧ wx.cell? ⟨g, 1, none⟩ = some (.slice A n c) ∧ OwnLab old.heap.size wx (.agg #[.int .i64 l.base, .slice A n c]) l
theorem Boxed.stored {old w5 : World} {g base : Nat} {A : Option Addr} {n c : Nat} {l : Lab} {b : Bool} (hb : Below old.heap.size old w5) (hg : old.heap.size ≤ g) (hy : Fresh w5 g) (ho : OwnLab base w5 (.agg #[.int .i64 l.base, .slice A n c]) l) (hgb : g < base) :
    Boxed old l b (.pointer (some ⟨g, 0, none⟩)) (.bool b) ((w5.setCell ⟨g, 0, none⟩ (.int .i64 l.base)).setCell ⟨g, 1, none⟩ (.slice A n c)) :=
  ⟨g, A, n, c, rfl, rfl, (hb.setCell hg _).setCell hg _, hg, by simp [go_sem, hy.c0], by simp [go_sem, hy.c1], ((ho.past hgb).past hgb).lower (by omega)⟩
theorem Boxed.laid {old w5 : World} {base : Nat} {A : Option Addr} {n c : Nat} {l : Lab} {b : Bool} {t : TypeId} (hb : Below old.heap.size old w5) (ho : OwnLab base w5 (.agg #[.int .i64 l.base, .slice A n c]) l) (hbase : old.heap.size ≤ base) :
    Boxed old l b (.pointer (some ⟨w5.heap.size, 0, none⟩)) (.bool b) (w5.alloc (.cells #[.int .i64 l.base, .slice A n c] t)) :=
  ⟨w5.heap.size, A, n, c, rfl, rfl, hb.alloc hb.size _, hb.size, by simp, by simp, (ho.alloc1 _).lower hbase⟩
end Go.Proofs.YtnpeojlhjbdjiaaGreatDoor

/-
  A label in the making: its block g, its row of the call's own behind all that was there; what was there stays.
-/
namespace Go.Proofs.YtnpeojlhjbdjiaaGreatDoor
set_option maxRecDepth 100000
open Go.RowKit

theorem elemPart2 : Elem Tryz.prog 24 80 2 16 := .of_info ptinfo Tryz.underlying24 rfl (by omega)

/-- Two boxed labels, a result's block and a label in the making, just laid. -/
theorem laid4 {w w1 : World} {a0 a1 b0 b1 r0 r1 g0 g1 : Value} {t : TypeId} (hW : (((w.alloc (.cells #[a0, a1] t)).alloc (.cells #[b0, b1] t)).alloc (.cells #[r0, r1] t)).alloc (.cells #[g0, g1] t) = w1) :
    w1.heap.size = w.heap.size + 1 + 1 + 1 + 1 ∧ Below w.heap.size w w1 ∧ Has w1 w.heap.size [a0, a1] ∧ Has w1 (w.heap.size + 1) [b0, b1] ∧ Has w1 (w.heap.size + 1 + 1) [r0, r1] ∧ Has w1 (w.heap.size + 1 + 1 + 1) [g0, g1] ∧ ∀ k i, w.heap.size ≤ k → k < w1.heap.size → w1.frozen? ⟨k, i, none⟩ = false := by
  subst hW
  refine ⟨by simp, by go_grown, fun j v hj => ?_, fun j v hj => ?_, fun j v hj => ?_, fun j v hj => ?_, fun k i h1 h2 => ?_⟩
  · have : j < 2 := by rcases Nat.lt_or_ge j 2 with h | h; exact h; rw [List.getElem?_eq_none (by simpa using h)] at hj; cases hj
    match j, this with
    | 0, _ => cases hj; simp [go_sem]
    | 1, _ => cases hj; simp [go_sem]
  · have : j < 2 := by rcases Nat.lt_or_ge j 2 with h | h; exact h; rw [List.getElem?_eq_none (by simpa using h)] at hj; cases hj
    match j, this with
    | 0, _ => cases hj; simp [go_sem]
    | 1, _ => cases hj; simp [go_sem]
  · have : j < 2 := by rcases Nat.lt_or_ge j 2 with h | h; exact h; rw [List.getElem?_eq_none (by simpa using h)] at hj; cases hj
    match j, this with
    | 0, _ => cases hj; simp [go_sem]
    | 1, _ => cases hj; simp [go_sem]
  · have : j < 2 := by rcases Nat.lt_or_ge j 2 with h | h; exact h; rw [List.getElem?_eq_none (by simpa using h)] at hj; cases hj
    match j, this with
    | 0, _ => cases hj; simp [go_sem]
    | 1, _ => cases hj; simp [go_sem]
  · simp at h2
    obtain rfl | rfl | rfl | rfl : k = w.heap.size ∨ k = w.heap.size + 1 ∨ k = w.heap.size + 1 + 1 ∨ k = w.heap.size + 1 + 1 + 1 := by omega
    all_goals simp [go_sem]
/-- Three boxed labels, a result's block and a label in the making, just laid. -/
theorem laid5 {w w1 : World} {a0 a1 b0 b1 d0 d1 r0 r1 g0 g1 : Value} {t : TypeId} (hW : ((((w.alloc (.cells #[a0, a1] t)).alloc (.cells #[b0, b1] t)).alloc (.cells #[d0, d1] t)).alloc (.cells #[r0, r1] t)).alloc (.cells #[g0, g1] t) = w1) :
    w1.heap.size = w.heap.size + 1 + 1 + 1 + 1 + 1 ∧ Below w.heap.size w w1 ∧ Has w1 w.heap.size [a0, a1] ∧ Has w1 (w.heap.size + 1) [b0, b1] ∧ Has w1 (w.heap.size + 1 + 1) [d0, d1] ∧ Has w1 (w.heap.size + 1 + 1 + 1) [r0, r1] ∧ Has w1 (w.heap.size + 1 + 1 + 1 + 1) [g0, g1] ∧ ∀ k i, w.heap.size ≤ k → k < w1.heap.size → w1.frozen? ⟨k, i, none⟩ = false := by
  subst hW
  refine ⟨by simp, by go_grown, fun j v hj => ?_, fun j v hj => ?_, fun j v hj => ?_, fun j v hj => ?_, fun j v hj => ?_, fun k i h1 h2 => ?_⟩
  · have : j < 2 := by rcases Nat.lt_or_ge j 2 with h | h; exact h; rw [List.getElem?_eq_none (by simpa using h)] at hj; cases hj
    match j, this with
    | 0, _ => cases hj; simp [go_sem]
    | 1, _ => cases hj; simp [go_sem]
  · have : j < 2 := by rcases Nat.lt_or_ge j 2 with h | h; exact h; rw [List.getElem?_eq_none (by simpa using h)] at hj; cases hj
    match j, this with
    | 0, _ => cases hj; simp [go_sem]
    | 1, _ => cases hj; simp [go_sem]
  · have : j < 2 := by rcases Nat.lt_or_ge j 2 with h | h; exact h; rw [List.getElem?_eq_none (by simpa using h)] at hj; cases hj
    match j, this with
    | 0, _ => cases hj; simp [go_sem]
    | 1, _ => cases hj; simp [go_sem]
  · have : j < 2 := by rcases Nat.lt_or_ge j 2 with h | h; exact h; rw [List.getElem?_eq_none (by simpa using h)] at hj; cases hj
    match j, this with
    | 0, _ => cases hj; simp [go_sem]
    | 1, _ => cases hj; simp [go_sem]
  · have : j < 2 := by rcases Nat.lt_or_ge j 2 with h | h; exact h; rw [List.getElem?_eq_none (by simpa using h)] at hj; cases hj
    match j, this with
    | 0, _ => cases hj; simp [go_sem]
    | 1, _ => cases hj; simp [go_sem]
  · simp at h2
    obtain rfl | rfl | rfl | rfl | rfl : k = w.heap.size ∨ k = w.heap.size + 1 ∨ k = w.heap.size + 1 + 1 ∨ k = w.heap.size + 1 + 1 + 1 ∨ k = w.heap.size + 1 + 1 + 1 + 1 := by omega
    all_goals simp [go_sem]
/-- The label is made in block g; w0: the world in which it was begun. -/
structure Bld (w0 : World) (g : Nat) (b : Int) (wr : World) (A : Option Addr) (n c : Nat) (ps : List (Int × Int)) : Prop where
  gl : g < w0.heap.size
  kept : w0.grownBy wr (some g)
  g0 : wr.cell? ⟨g, 0, none⟩ = some (.int .i64 b)
  g1 : wr.cell? ⟨g, 1, none⟩ = some (.slice A n c)
  f1 : wr.frozen? ⟨g, 1, none⟩ = false
  own : wr.ownsRow w0.heap.size 80 2 (.slice A n c) n (ptcells ps)
  len : ps.length = n
section
variable {w0 wr w' : World} {g : Nat} {b : Int} {A : Option Addr} {n c : Nat} {ps : List (Int × Int)}
theorem Bld.begin {w0 : World} {g : Nat} {b : Int} (h0 : w0.cell? ⟨g, 0, none⟩ = some (.int .i64 b)) (h1 : w0.cell? ⟨g, 1, none⟩ = some (.slice none 0 0)) (hf : w0.frozen? ⟨g, 1, none⟩ = false) : Bld w0 g b w0 none 0 0 [] :=
  ⟨block_lt_of_cell h0, World.grownBy.refl _ _, h0, h1, hf, World.ownsRow_nil _ _ _ _, rfl⟩
theorem Bld.below (h : Bld w0 g b wr A n c ps) (hb : Below wr.heap.size wr w') : Bld w0 g b w' A n c ps := by
  have hgl := Nat.lt_of_lt_of_le h.gl h.kept.size
  exact ⟨h.gl, gb_trans h.kept ⟨hb.os, hb.tape, hb.output, hb.size, fun k hk _ => hb.block k hk⟩, (hb.cell hgl).trans h.g0, (hb.cell hgl).trans h.g1, (hb.frozen hgl).trans h.f1, own_below h.own hb, h.len⟩
theorem Bld.drew (h : Bld w0 g b wr A n c ps) : Bld w0 g b wr.drew A n c ps := h.below (Below.refl _ _).drew
theorem Bld.alloc (h : Bld w0 g b wr A n c ps) (o : Obj) : Bld w0 g b (wr.alloc o) A n c ps := h.below ((Below.refl _ _).alloc (Nat.le_refl _) o)
/-- What was there. -/
theorem Bld.cell (h : Bld w0 g b wr A n c ps) {k i : Nat} {v : Value} (hk : k ≠ g) (hc : w0.cell? ⟨k, i, none⟩ = some v) : wr.cell? ⟨k, i, none⟩ = some v := h.kept.cell hc (fun e => hk (Option.some.inj e))
theorem Bld.frozen (h : Bld w0 g b wr A n c ps) {k i : Nat} (hk : k ≠ g) (hl : k < w0.heap.size) : wr.frozen? ⟨k, i, none⟩ = w0.frozen? ⟨k, i, none⟩ :=
  World.frozen?_of_block (w := w0) (h.kept.block k hl (fun e => hk (Option.some.inj e)))
theorem Bld.has (h : Bld w0 g b wr A n c ps) {k : Nat} {cs : List Value} (hk : k ≠ g) (hc : Has w0 k cs) : Has wr k cs := fun j v hj => h.cell hk (hc j v hj)
theorem Bld.row (h : Bld w0 g b wr A n c ps) {base : Nat} {t : TypeId} {s m d : Nat} {B : Option Addr} {xs : List Value} (ho : w0.ownsRow base t s (.slice B m d) m xs) (hg : g < base) : At wr B xs := by
  refine own_read (ho.kept h.kept ?_)
  cases hk : (Value.slice B m d).ownBlock with
  | none => exact .inl rfl
  | some k => exact .inr (fun e => by have := (ho.lt k hk).1; have := Option.some.inj e; omega)
theorem Bld.under (h : Bld w0 g b wr A n c ps) {w : World} (hb : Below w.heap.size w w0) (hg : w.heap.size ≤ g) : Below w.heap.size w wr := hb.grown h.kept hb.size (fun k hk => by have := Option.some.inj hk; omega)
/-- A part is put behind the others. -/
theorem Bld.store (h : Bld w0 g b wr A n c ps) {A' : Option Addr} {c' m : Nat} {q : Int × Int} (hap : Apped w0.heap.size 80 2 (.slice A n c) m (ptcells ps ++ ptcells [q]) wr (.slice A' m c') w') (hm : m = n + 1) :
    Bld w0 g b (w'.setCell ⟨g, 1, none⟩ (.slice A' m c')) A' m c' (ps ++ [q]) := by
  have hgl := Nat.lt_of_lt_of_le h.gl h.kept.size
  have hrow : ∀ k, (Value.slice A n c).ownBlock = some k → w0.heap.size ≤ k := fun k hk => (h.own.lt k hk).1
  have hrow' : ∀ k, (Value.slice A' m c').ownBlock = some k → k ≠ g := fun k hk => by
    have := (hap.own.lt k hk).1; have := h.gl; omega
  have hb : ∀ k, k ≠ g → (w'.setCell ⟨g, 1, none⟩ (.slice A' m c')).heap[k]? = w'.heap[k]? := fun k hk => Below.heap_setCell _ _ _ _ (by simpa using hk)
  have hne : (Value.slice A n c).ownBlock ≠ some g := fun e => by have := hrow g e; have := h.gl; omega
  have eg : w'.heap[g]? = wr.heap[g]? := hap.grown.block g hgl (fun e => hne e.symm)
  refine ⟨h.gl, ⟨hap.grown.os.trans h.kept.os, hap.grown.tape.trans h.kept.tape, hap.grown.output.trans h.kept.output, by have := hap.grown.size; have := h.kept.size; simp; omega, fun k hk hkg => ?_⟩, ?_, ?_, ?_, ?_, by rw [List.length_append, h.len, hm]; rfl⟩
  · have hk' : k ≠ g := fun e => hkg (by rw [e])
    rw [hb k hk', hap.grown.block k (by have := h.kept.size; omega) (fun e => by have := hrow k e.symm; omega)]
    exact h.kept.block k hk hkg
  · rw [World.cell?_setCell_other (a := _) (b := _) (h := by simp), World.cell?_of_block (w := wr) eg]; exact h.g0
  · exact World.cell?_setCell_same _ _ _ ((World.cell?_of_block (w := wr) eg).trans h.g1)
  · have e : w'.frozen? ⟨g, 1, none⟩ = wr.frozen? ⟨g, 1, none⟩ := World.frozen?_of_block (w := wr) eg
    simpa [e] using h.f1
  · rw [ptcells_append]
    exact hap.own.kept (w' := w'.setCell ⟨g, 1, none⟩ (.slice A' m c')) (row := some g) ⟨rfl, rfl, rfl, by simp, fun k _ hkg => hb k (fun e => hkg (by rw [e]))⟩ (by
      cases hk : (Value.slice A' m c').ownBlock with
      | none => exact .inl rfl
      | some k => exact .inr (fun e => hrow' k hk (Option.some.inj e)))
end
end Go.Proofs.YtnpeojlhjbdjiaaGreatDoor

/-
  A label in the making whose block is written whole, again and again; kept while blocks that are no cells turn.
-/
namespace Go.Proofs.YtnpeojlhjbdjiaaGreatDoor
set_option maxRecDepth 100000
open Go.RowKit

/-- The label is made in block g; w0: the world in which it was begun. -/
structure Mk (w0 : World) (g : Nat) (wr : World) (A : Option Addr) (n c : Nat) (l : Lab) : Prop where
  b : Bld w0 g l.base wr A n c l.parts
  f0 : wr.frozen? ⟨g, 0, none⟩ = false
section
variable {w0 wr w' : World} {g : Nat} {A : Option Addr} {n c : Nat} {l : Lab}
theorem Mk.gl (h : Mk w0 g wr A n c l) : g < wr.heap.size := Nat.lt_of_lt_of_le h.b.gl h.b.kept.size
theorem Mk.below (h : Mk w0 g wr A n c l) (hb : Below wr.heap.size wr w') : Mk w0 g w' A n c l := ⟨h.b.below hb, (hb.frozen h.gl).trans h.f0⟩
theorem Mk.drew (h : Mk w0 g wr A n c l) : Mk w0 g wr.drew A n c l := h.below (Below.refl _ _).drew
theorem Mk.alloc (h : Mk w0 g wr A n c l) (o : Obj) : Mk w0 g (wr.alloc o) A n c l := h.below ((Below.refl _ _).alloc (Nat.le_refl _) o)
theorem Mk.under (h : Mk w0 g wr A n c l) {w : World} (hb : Below w.heap.size w w0) (hg : w.heap.size ≤ g) : Below w.heap.size w wr := h.b.under hb hg
theorem Mk.rd (h : Mk w0 g wr A n c l) (hn : n ≤ 1048576) : RdLab wr (.agg #[.int .i64 l.base, .slice A n c]) l := OwnLab.rd (base := w0.heap.size) ⟨A, n, c, rfl, h.b.len, hn, h.b.own⟩
/-- Another label is put there. -/
theorem Mk.put (h : Mk w0 g wr A n c l) (hb : Below wr.heap.size wr w') {A' : Option Addr} {n' c' : Nat} {m : Lab} (ho : OwnLab wr.heap.size w' (.agg #[.int .i64 m.base, .slice A' n' c']) m) :
    Mk w0 g ((w'.setCell ⟨g, 0, none⟩ (.int .i64 m.base)).setCell ⟨g, 1, none⟩ (.slice A' n' c')) A' n' c' m := by
  have hl := h.gl
  have h2 := h.below hb
  have k0 := gb_set (i := 0) h2.b.kept (.int .i64 m.base)
  have k1 := gb_set (i := 1) k0 (.slice A' n' c')
  have ho2 := ((ho.past (i := 0) (u := .int .i64 m.base) hl).past (i := 1) (u := .slice A' n' c') hl).lower (Nat.le_trans h.b.kept.size (Nat.le_refl _))
  obtain ⟨A2, n2, c2, he, hlen, -, hown⟩ := ho2
  simp only [Value.agg.injEq, Array.mk.injEq, List.cons.injEq, Value.slice.injEq, and_true, true_and] at he
  obtain ⟨rfl, rfl, rfl⟩ := he
  refine ⟨⟨h.b.gl, k1, ?_, ?_, ?_, hown, hlen⟩, ?_⟩
  · rw [World.cell?_setCell_other (a := _) (b := _) (h := by simp)]
    exact World.cell?_setCell_same _ _ _ h2.b.g0
  · refine World.cell?_setCell_same (u := .slice A n c) _ _ _ ?_
    rw [World.cell?_setCell_other (a := _) (b := _) (h := by simp)]
    exact h2.b.g1
  · have := h2.b.f1; simpa using this
  · have := h2.f0; simpa using this
/-- Blocks that are no cells turn. -/
theorem Mk.turned (h : Mk w0 g wr A n c l) {row : Option Nat} (hg : wr.grownBy w' row) (hr : ∀ r, row = some r → w0.heap.size ≤ r ∧ ∃ o : Obj, wr.heap[r]? = some o ∧ o.isCells = false) : Mk w0 g w' A n c l := by
  have hc : ∀ r, row = some r → ∃ o : Obj, wr.heap[r]? = some o ∧ o.isCells = false := fun r e => (hr r e).2
  refine ⟨⟨h.b.gl, ⟨hg.os.trans h.b.kept.os, hg.tape.trans h.b.kept.tape, hg.output.trans h.b.kept.output, Nat.le_trans h.b.kept.size hg.size, fun k hk hne => ?_⟩, cell_kept h.b.g0 hg hc, cell_kept h.b.g1 hg hc, (frozen_kept h.b.g1 hg hc).trans h.b.f1, h.b.own.kept hg ?_, h.b.len⟩, (frozen_kept h.b.g0 hg hc).trans h.f0⟩
  · refine (hg.block k (Nat.lt_of_lt_of_le hk h.b.kept.size) (fun e => ?_)).trans (h.b.kept.block k hk hne)
    have := (hr k e.symm).1
    omega
  · rcases h.b.own.2 with ⟨e, _⟩ | ⟨q, cap, cur, e, _, hq, _⟩
    · exact .inl (by rw [e]; rfl)
    · refine .inr fun e' => ?_
      rw [e] at e'
      obtain ⟨o, ho, hc'⟩ := hc q (by simpa [Value.ownBlock] using e'.symm)
      rw [hq] at ho
      cases ho
      cases hc'
end
/-- A label in the making, just begun: a boxed label and a result's block ahead of it. -/
theorem laidMk {w w1 : World} {a0 a1 r0 r1 g0 g1 : Value} {t : TypeId} (hW : ((w.alloc (.cells #[a0, a1] t)).alloc (.cells #[r0, r1] t)).alloc (.cells #[g0, g1] t) = w1) :
    w1.heap.size = w.heap.size + 1 + 1 + 1 ∧ Below w.heap.size w w1 ∧ Has w1 w.heap.size [a0, a1] ∧ Has w1 (w.heap.size + 1) [r0, r1] ∧ Has w1 (w.heap.size + 1 + 1) [g0, g1] ∧ ∀ k i, w.heap.size ≤ k → k < w1.heap.size → w1.frozen? ⟨k, i, none⟩ = false := by
  subst hW
  refine ⟨by simp, by go_grown, fun j v hj => ?_, fun j v hj => ?_, fun j v hj => ?_, fun k i h1 h2 => ?_⟩
  · have : j < 2 := by rcases Nat.lt_or_ge j 2 with h | h; exact h; rw [List.getElem?_eq_none (by simpa using h)] at hj; cases hj
    match j, this with
    | 0, _ => cases hj; simp [go_sem]
    | 1, _ => cases hj; simp [go_sem]
  · have : j < 2 := by rcases Nat.lt_or_ge j 2 with h | h; exact h; rw [List.getElem?_eq_none (by simpa using h)] at hj; cases hj
    match j, this with
    | 0, _ => cases hj; simp [go_sem]
    | 1, _ => cases hj; simp [go_sem]
  · have : j < 2 := by rcases Nat.lt_or_ge j 2 with h | h; exact h; rw [List.getElem?_eq_none (by simpa using h)] at hj; cases hj
    match j, this with
    | 0, _ => cases hj; simp [go_sem]
    | 1, _ => cases hj; simp [go_sem]
  · simp at h2
    obtain rfl | rfl | rfl : k = w.heap.size ∨ k = w.heap.size + 1 ∨ k = w.heap.size + 1 + 1 := by omega
    all_goals simp [go_sem]
/-- What a round keeps: all that lay below N, but for block g. -/
structure KeepBut (g N : Nat) (W W' : World) : Prop where
  os : W'.os = W.os
  tape : W'.tape = W.tape
  output : W'.output = W.output
  size : W.heap.size ≤ W'.heap.size
  block : ∀ k, k < N → k ≠ g → W'.heap[k]? = W.heap[k]?
theorem KeepBut.refl (g N : Nat) (W : World) : KeepBut g N W W := ⟨rfl, rfl, rfl, Nat.le_refl _, fun _ _ _ => rfl⟩
theorem KeepBut.trans {g N : Nat} {X Y Z : World} (h : KeepBut g N X Y) (k : KeepBut g N Y Z) : KeepBut g N X Z := ⟨k.os.trans h.os, k.tape.trans h.tape, k.output.trans h.output, Nat.le_trans h.size k.size, fun i hi hg => (k.block i hi hg).trans (h.block i hi hg)⟩
theorem KeepBut.below {g N : Nat} {X Y : World} (hN : N ≤ X.heap.size) (h : Below X.heap.size X Y) : KeepBut g N X Y := ⟨h.os, h.tape, h.output, h.size, fun k hk _ => h.block k (by omega)⟩
theorem KeepBut.set {g N : Nat} (X : World) (i : Nat) (v : Value) : KeepBut g N X (X.setCell ⟨g, i, none⟩ v) := ⟨rfl, rfl, rfl, by simp, fun k _ hk => Below.heap_setCell _ _ _ k (by simpa using hk)⟩
theorem KeepBut.b {g N : Nat} (W : World) (l : Nat) {o : Obj} (o' : Obj) (hl : N ≤ l) (_h : W.heap[l]? = some o) (_c : o.isCells = false) (_k : o.isWalk = false) : KeepBut g N W (W.putObj l o') := ⟨rfl, rfl, rfl, by simp, fun k hk _ => World.putObj_heap_other (by omega)⟩
theorem keepsOthers_below {X Y : World} (h : Below X.heap.size X Y) : KeepsOthers X Y := ⟨h.size, fun k _ hk _ => (h.block k (Array.getElem?_eq_some_iff.1 hk).1).trans hk⟩
/-- What was there when the loop began, read in a round. -/
theorem KeepBut.grown {g : Nat} {X Y : World} (h : KeepBut g X.heap.size X Y) : X.grownBy Y (some g) := ⟨h.os, h.tape, h.output, h.size, fun k hk hne => h.block k hk (fun e => hne (by rw [e]))⟩
end Go.Proofs.YtnpeojlhjbdjiaaGreatDoor

/-
  Blocks of cells (boxed structs), changes of a list of blocks, and what stays. No program in sight.
-/
namespace Go.Proofs.YtnpeojlhjbdjiaaGreatDoor
set_option maxRecDepth 100000
open Go.RowKit

/-- A block holds these cells, and may be written. -/
structure Box (w : World) (g : Nat) (cs : List Value) : Prop where
  has : Has w g cs
  free : ∀ j, w.frozen? ⟨g, j, none⟩ = false
  lt : g < w.heap.size
section
variable {w w' x : World} {g b i : Nat} {cs : List Value} {u : Value}
theorem Box.below (h : Box w g cs) (hb : Below w.heap.size w w') : Box w' g cs := ⟨h.has.below hb, fun j => (hb.frozen (p := ⟨g, j, none⟩) h.lt).trans (h.free j), Nat.lt_of_lt_of_le h.lt hb.size⟩
theorem Box.new (w : World) (cs : Array Value) (t : TypeId) : Box (w.alloc (.cells cs t)) w.heap.size cs.toList :=
  ⟨fun j v hj => (World.cell?_alloc_new _ _ _ _).trans (by simpa using hj), fun j => World.frozen?_alloc_new _ _ _ _, by simp⟩
theorem Box.alloc (h : Box w g cs) (o : Obj) : Box (w.alloc o) g cs := h.below ((Below.refl _ _).alloc (Nat.le_refl _) o)
theorem Box.drew (h : Box w g cs) : Box w.drew g cs := ⟨h.has, h.free, h.lt⟩
theorem Box.far (h : Box w g cs) (hn : g ≠ b) : Box (w.setCell ⟨b, i, none⟩ u) g cs :=
  ⟨fun j v hj => (World.cell?_setCell_other w _ _ _ (by intro e; exact hn (by cases e; rfl))).trans (h.has j v hj), fun j => (World.frozen?_setCell _ _ _ _).trans (h.free j), by simpa using h.lt⟩
theorem Box.set (h : Box w g cs) (hi : i < cs.length) : Box (w.setCell ⟨g, i, none⟩ u) g (cs.set i u) :=
  ⟨fun j v hj => by
    by_cases e : i = j
    · subst e
      rw [List.getElem?_set_self hi] at hj
      cases hj
      exact World.cell?_setCell_same _ _ _ (h.has i _ (List.getElem?_eq_getElem hi))
    · rw [List.getElem?_set_ne e] at hj
      exact (World.cell?_setCell_other w _ _ _ (by intro k; cases k; exact e rfl)).trans (h.has j v hj), fun j => (World.frozen?_setCell _ _ _ _).trans (h.free j), by simpa using h.lt⟩
theorem Box.cell (h : Box w g cs) (j : Nat) {v : Value} (hj : cs[j]? = some v) : w.cell? ⟨g, j, none⟩ = some v := h.has j v hj
/-- Three blocks, just laid. -/
theorem laid3 {ps rs os : List Value} {t r s : TypeId} (hW : ((w.alloc (.cells ps.toArray t)).alloc (.cells rs.toArray r)).alloc (.cells os.toArray s) = x) :
    Box x w.heap.size ps ∧ Box x (w.heap.size + 1) rs ∧ Box x (w.heap.size + 1 + 1) os ∧ x.heap.size = w.heap.size + 1 + 1 + 1 ∧ Below w.heap.size w x := by
  subst hW
  refine ⟨?_, ?_, ?_, by simp, by go_grown⟩
  · exact ((Box.new w ps.toArray t).alloc _).alloc _
  · have h := (Box.new (w.alloc (.cells ps.toArray t)) rs.toArray r).alloc (.cells os.toArray s)
    simpa using h
  · have h := Box.new ((w.alloc (.cells ps.toArray t)).alloc (.cells rs.toArray r)) os.toArray s
    simpa using h
/-- Four blocks, just laid. -/
theorem laid4b {ps rs os qs : List Value} {t r s q : TypeId} (hW : (((w.alloc (.cells ps.toArray t)).alloc (.cells rs.toArray r)).alloc (.cells os.toArray s)).alloc (.cells qs.toArray q) = x) :
    Box x w.heap.size ps ∧ Box x (w.heap.size + 1) rs ∧ Box x (w.heap.size + 1 + 1) os ∧ Box x (w.heap.size + 1 + 1 + 1) qs ∧ x.heap.size = w.heap.size + 1 + 1 + 1 + 1 ∧ Below w.heap.size w x := by
  subst hW
  obtain ⟨h1, h2, h3, h4, h5⟩ := laid3 (w := w) (ps := ps) (rs := rs) (os := os) (t := t) (r := r) (s := s) rfl
  refine ⟨h1.alloc _, h2.alloc _, h3.alloc _, ?_, by simp, by go_grown⟩
  have h := Box.new (((w.alloc (.cells ps.toArray t)).alloc (.cells rs.toArray r)).alloc (.cells os.toArray s)) qs.toArray q
  simpa using h
/-- Five blocks, just laid. -/
theorem laid5b {ps rs os qs ts : List Value} {t r s q u : TypeId} (hW : ((((w.alloc (.cells ps.toArray t)).alloc (.cells rs.toArray r)).alloc (.cells os.toArray s)).alloc (.cells qs.toArray q)).alloc (.cells ts.toArray u) = x) :
    Box x w.heap.size ps ∧ Box x (w.heap.size + 1) rs ∧ Box x (w.heap.size + 1 + 1) os ∧ Box x (w.heap.size + 1 + 1 + 1) qs ∧ Box x (w.heap.size + 1 + 1 + 1 + 1) ts ∧ x.heap.size = w.heap.size + 1 + 1 + 1 + 1 + 1 ∧ Below w.heap.size w x := by
  subst hW
  obtain ⟨h1, h2, h3, h4, h5, h6⟩ := laid4b (w := w) (ps := ps) (rs := rs) (os := os) (qs := qs) (t := t) (r := r) (s := s) (q := q) rfl
  refine ⟨h1.alloc _, h2.alloc _, h3.alloc _, h4.alloc _, ?_, by simp, by go_grown⟩
  have h := Box.new ((((w.alloc (.cells ps.toArray t)).alloc (.cells rs.toArray r)).alloc (.cells os.toArray s)).alloc (.cells qs.toArray q)) ts.toArray u
  simpa using h
/-- One block, just laid. -/
theorem laid1 {ps : List Value} {t : TypeId} (hW : w.alloc (.cells ps.toArray t) = x) : Box x w.heap.size ps ∧ x.heap.size = w.heap.size + 1 ∧ Below w.heap.size w x := by
  subst hW
  exact ⟨Box.new w ps.toArray t, by simp, by go_grown⟩
/-- Two blocks, just laid. -/
theorem laid2 {ps rs : List Value} {t r : TypeId} (hW : (w.alloc (.cells ps.toArray t)).alloc (.cells rs.toArray r) = x) :
    Box x w.heap.size ps ∧ Box x (w.heap.size + 1) rs ∧ x.heap.size = w.heap.size + 1 + 1 ∧ Below w.heap.size w x := by
  subst hW
  refine ⟨(Box.new w ps.toArray t).alloc _, ?_, by simp, by go_grown⟩
  have h := Box.new (w.alloc (.cells ps.toArray t)) rs.toArray r
  simpa using h
end

/-- Stores one behind the other, from place i of block b on. -/
def putRow (w : World) (b : Nat) : Nat → List Value → World
  | _, [] => w
  | i, v :: vs => putRow (w.setCell ⟨b, i, none⟩ v) b (i + 1) vs
theorem below_putRow {B b : Nat} {a : World} : ∀ (vs : List Value) {w : World} {i : Nat}, Below B a w → B ≤ b → Below B a (putRow w b i vs)
  | [], _, _, h, _ => h
  | _ :: vs, _, _, h, hb => below_putRow vs (h.setCell hb _) hb
theorem OwnLab.putRow {base b : Nat} {v : Value} {l : Lab} : ∀ (vs : List Value) {w : World} {i : Nat}, OwnLab base w v l → b < base → OwnLab base (putRow w b i vs) v l
  | [], _, _, h, _ => h
  | _ :: vs, _, _, h, hb => OwnLab.putRow vs (h.past hb) hb
theorem ownsRow_putRow' {base b : Nat} {e : TypeId} {size n : Nat} {v : Value} {xs : List Value} : ∀ (vs : List Value) {w : World} {i : Nat}, w.ownsRow base e size v n xs → b < base → (putRow w b i vs).ownsRow base e size v n xs
  | [], _, _, h, _ => h
  | _ :: vs, _, _, h, hb => ownsRow_putRow' vs (ownsRow_setCell_below h (by simpa using hb) _) hb

/-- What stands in memory of values: the blocks of their rows. -/
def fpOf (vs : List Value) : List Nat := vs.flatMap fun v => v.ownBlock.toList
theorem fpOf_nil : fpOf [] = [] := rfl
theorem fpOf_cons (v : Value) (vs : List Value) : fpOf (v :: vs) = v.ownBlock.toList ++ fpOf vs := rfl
theorem own_int (n : Int) : (Value.int .i64 n).ownBlock = none := rfl
theorem fpOf_int (n : Int) (vs : List Value) : fpOf (.int .i64 n :: vs) = fpOf vs := rfl
theorem mem_fp {v : Value} {k : Nat} : k ∈ v.ownBlock.toList ↔ v.ownBlock = some k := by cases v.ownBlock <;> simp [eq_comm]
/-- No two of them share a row. -/
def Apart (vs : List Value) : Prop := (fpOf vs).Nodup
theorem Apart.nil : Apart [] := by simp [Apart, fpOf]
theorem Apart.int {vs : List Value} (h : Apart vs) (n : Int) : Apart (.int .i64 n :: vs) := h
theorem Apart.cons {v : Value} {vs : List Value} (h : Apart vs) (hv : ∀ k, v.ownBlock = some k → k ∉ fpOf vs) : Apart (v :: vs) := by
  unfold Apart at h ⊢
  rw [fpOf_cons, List.nodup_append]
  refine ⟨?_, h, fun a ha b hb e => ?_⟩
  · cases v.ownBlock <;> simp
  · subst e; exact hv a (mem_fp.1 ha) hb

/-- Some blocks are written, and there are new ones; all else is as it was. -/
structure Chg (bs : List Nat) (w w' : World) : Prop where
  os : w'.os = w.os
  tape : w'.tape = w.tape
  output : w'.output = w.output
  size : w.heap.size ≤ w'.heap.size
  block : ∀ k, k < w.heap.size → k ∉ bs → w'.heap[k]? = w.heap[k]?
section
variable {bs cs : List Nat} {w w' x : World}
theorem Chg.refl (bs : List Nat) (w : World) : Chg bs w w := ⟨rfl, rfl, rfl, Nat.le_refl _, fun _ _ _ => rfl⟩
theorem Chg.of_below (h : Below w.heap.size w w') (bs : List Nat) : Chg bs w w' := ⟨h.os, h.tape, h.output, h.size, fun k hk _ => h.block k hk⟩
theorem Chg.of_grown {row : Option Nat} (h : w.grownBy w' row) (hr : ∀ k, row = some k → k ∈ bs) : Chg bs w w' := ⟨h.os, h.tape, h.output, h.size, fun k hk hn => h.block k hk (fun e => hn (hr k e.symm))⟩
theorem Chg.trans (h : Chg bs w w') (k : Chg bs w' x) : Chg bs w x :=
  ⟨k.os.trans h.os, k.tape.trans h.tape, k.output.trans h.output, Nat.le_trans h.size k.size, fun i hi hn => (k.block i (Nat.lt_of_lt_of_le hi h.size) hn).trans (h.block i hi hn)⟩
theorem Chg.mono (h : Chg bs w w') (hs : ∀ b ∈ bs, b ∈ cs) : Chg cs w w' := ⟨h.os, h.tape, h.output, h.size, fun k hk hn => h.block k hk (fun e => hn (hs k e))⟩
theorem Chg.cell (h : Chg bs w w') {k i : Nat} {v : Value} (hc : w.cell? ⟨k, i, none⟩ = some v) (hn : k ∉ bs) : w'.cell? ⟨k, i, none⟩ = some v := (World.cell?_of_block (w := w) (h.block k (block_lt_of_cell hc) hn)).trans hc
theorem Chg.below {B : Nat} {a : World} (h : Chg bs w w') (hb : Below B a w) (hB : B ≤ w.heap.size) (hs : ∀ b ∈ bs, B ≤ b) : Below B a w' :=
  hb.trans ⟨h.os, h.tape, h.output, h.size, fun k hk => h.block k (by omega) (fun e => by have := hs k e; omega)⟩
theorem Chg.box {g : Nat} {vs : List Value} (h : Chg bs w w') (hb : Box w g vs) (hn : g ∉ bs) : Box w' g vs :=
  ⟨fun j v hj => h.cell (hb.has j v hj) hn, fun j => (World.frozen?_of_block (w := w) (h.block g hb.lt hn)).trans (hb.free j), Nat.lt_of_lt_of_le hb.lt h.size⟩
theorem Chg.row {base : Nat} {t : TypeId} {size n : Nat} {v : Value} {xs : List Value} (h : Chg bs w w') (ho : w.ownsRow base t size v n xs) (hn : ∀ k, v.ownBlock = some k → k ∉ bs) : w'.ownsRow base t size v n xs := by
  refine ⟨ho.1, ?_⟩
  rcases ho.2 with q | ⟨g, cap, cur, rfl, hbase, hgg, rest⟩
  · exact .inl q
  · exact .inr ⟨g, cap, cur, rfl, hbase, (h.block g (Array.getElem?_eq_some_iff.1 hgg).1 (hn g rfl)).trans hgg, rest⟩
theorem Chg.lab {base : Nat} {v : Value} {l : Lab} (h : Chg bs w w') (ho : OwnLab base w v l) (hn : ∀ k, (labRow v).ownBlock = some k → k ∉ bs) : OwnLab base w' v l := by
  obtain ⟨A, n, c, rfl, hl, hm, ho⟩ := ho
  exact ⟨A, n, c, rfl, hl, hm, h.row ho hn⟩
end
end Go.Proofs.YtnpeojlhjbdjiaaGreatDoor
