/-
  A label in the making: its block g, its row of the call's own behind all that was there; what was there stays.
-/
import Derived.Test.YtjdnobihhkmmpaaHas
import Derived.Test.YtjdnobihhkmmpaaApp
import Derived.Test.YtjdnobihhkmmpaaStep
import Derived.Test.YtjdnobihhkmmpaaLabPure
namespace Go.Proofs.Ytjdnobihhkmmpaa
set_option maxRecDepth 100000
open Go.RowKit

theorem elemPart2 : Elem Try.prog 24 56 2 16 := .of_info ptinfo Try.underlying24 rfl (by omega)

/-- Two boxed labels, a result's block and a label in the making, just laid. -/
theorem laid4 {w w1 : World} {a0 a1 b0 b1 r0 r1 g0 g1 : Value} {t : TypeId} (hW : (((w.alloc (.cells #[a0, a1] t)).alloc (.cells #[b0, b1] t)).alloc (.cells #[r0, r1] t)).alloc (.cells #[g0, g1] t) = w1) :
    w1.heap.size = w.heap.size + 1 + 1 + 1 + 1 ∧ Below w.heap.size w w1 ∧ Has w1 w.heap.size [a0, a1] ∧ Has w1 (w.heap.size + 1) [b0, b1] ∧ Has w1 (w.heap.size + 1 + 1) [r0, r1] ∧ Has w1 (w.heap.size + 1 + 1 + 1) [g0, g1] ∧ ∀ k i, w.heap.size ≤ k → k < w1.heap.size → w1.frozen? ⟨k, i, none⟩ = false := by
  subst hW
  refine ⟨by simp, by go_grown, fun j v hj => ?_, fun j v hj => ?_, fun j v hj => ?_, fun j v hj => ?_, fun k i h1 h2 => ?_⟩
  · have : j < 2 := by rcases Nat.lt_or_ge j 2 with h | h; exact h; rw [List.getElem?_eq_none (by simpa using h)] at hj; cases hj
    match j, this with
    | 0, _ => cases hj; simp [go_sem]
    | 1, _ => cases hj; simp [go_sem]
  · have : j < 2 := by rcases Nat.lt_or_ge j 2 with h | h; exact h; rw [List.getElem?_eq_none (by simpa using h)] at hj; cases hj
    match j, this with
    | 0, _ => cases hj; simp [go_sem]
    | 1, _ => cases hj; simp [go_sem]
  · have : j < 2 := by rcases Nat.lt_or_ge j 2 with h | h; exact h; rw [List.getElem?_eq_none (by simpa using h)] at hj; cases hj
    match j, this with
    | 0, _ => cases hj; simp [go_sem]
    | 1, _ => cases hj; simp [go_sem]
  · have : j < 2 := by rcases Nat.lt_or_ge j 2 with h | h; exact h; rw [List.getElem?_eq_none (by simpa using h)] at hj; cases hj
    match j, this with
    | 0, _ => cases hj; simp [go_sem]
    | 1, _ => cases hj; simp [go_sem]
  · simp at h2
    obtain rfl | rfl | rfl | rfl : k = w.heap.size ∨ k = w.heap.size + 1 ∨ k = w.heap.size + 1 + 1 ∨ k = w.heap.size + 1 + 1 + 1 := by omega
    all_goals simp [go_sem]
/-- Three boxed labels, a result's block and a label in the making, just laid. -/
theorem laid5 {w w1 : World} {a0 a1 b0 b1 d0 d1 r0 r1 g0 g1 : Value} {t : TypeId} (hW : ((((w.alloc (.cells #[a0, a1] t)).alloc (.cells #[b0, b1] t)).alloc (.cells #[d0, d1] t)).alloc (.cells #[r0, r1] t)).alloc (.cells #[g0, g1] t) = w1) :
    w1.heap.size = w.heap.size + 1 + 1 + 1 + 1 + 1 ∧ Below w.heap.size w w1 ∧ Has w1 w.heap.size [a0, a1] ∧ Has w1 (w.heap.size + 1) [b0, b1] ∧ Has w1 (w.heap.size + 1 + 1) [d0, d1] ∧ Has w1 (w.heap.size + 1 + 1 + 1) [r0, r1] ∧ Has w1 (w.heap.size + 1 + 1 + 1 + 1) [g0, g1] ∧ ∀ k i, w.heap.size ≤ k → k < w1.heap.size → w1.frozen? ⟨k, i, none⟩ = false := by
  subst hW
  refine ⟨by simp, by go_grown, fun j v hj => ?_, fun j v hj => ?_, fun j v hj => ?_, fun j v hj => ?_, fun j v hj => ?_, fun k i h1 h2 => ?_⟩
  · have : j < 2 := by rcases Nat.lt_or_ge j 2 with h | h; exact h; rw [List.getElem?_eq_none (by simpa using h)] at hj; cases hj
    match j, this with
    | 0, _ => cases hj; simp [go_sem]
    | 1, _ => cases hj; simp [go_sem]
  · have : j < 2 := by rcases Nat.lt_or_ge j 2 with h | h; exact h; rw [List.getElem?_eq_none (by simpa using h)] at hj; cases hj
    match j, this with
    | 0, _ => cases hj; simp [go_sem]
    | 1, _ => cases hj; simp [go_sem]
  · have : j < 2 := by rcases Nat.lt_or_ge j 2 with h | h; exact h; rw [List.getElem?_eq_none (by simpa using h)] at hj; cases hj
    match j, this with
    | 0, _ => cases hj; simp [go_sem]
    | 1, _ => cases hj; simp [go_sem]
  · have : j < 2 := by rcases Nat.lt_or_ge j 2 with h | h; exact h; rw [List.getElem?_eq_none (by simpa using h)] at hj; cases hj
    match j, this with
    | 0, _ => cases hj; simp [go_sem]
    | 1, _ => cases hj; simp [go_sem]
  · have : j < 2 := by rcases Nat.lt_or_ge j 2 with h | h; exact h; rw [List.getElem?_eq_none (by simpa using h)] at hj; cases hj
    match j, this with
    | 0, _ => cases hj; simp [go_sem]
    | 1, _ => cases hj; simp [go_sem]
  · simp at h2
    obtain rfl | rfl | rfl | rfl | rfl : k = w.heap.size ∨ k = w.heap.size + 1 ∨ k = w.heap.size + 1 + 1 ∨ k = w.heap.size + 1 + 1 + 1 ∨ k = w.heap.size + 1 + 1 + 1 + 1 := by omega
    all_goals simp [go_sem]
/-- The label is made in block g; w0: the world in which it was begun. -/
structure Bld (w0 : World) (g : Nat) (b : Int) (wr : World) (A : Option Addr) (n c : Nat) (ps : List (Int × Int)) : Prop where
  gl : g < w0.heap.size
  kept : w0.grownBy wr (some g)
  g0 : wr.cell? ⟨g, 0, none⟩ = some (.int .i64 b)
  g1 : wr.cell? ⟨g, 1, none⟩ = some (.slice A n c)
  f1 : wr.frozen? ⟨g, 1, none⟩ = false
  own : wr.ownsRow w0.heap.size 56 2 (.slice A n c) n (ptcells ps)
  len : ps.length = n
section
variable {w0 wr w' : World} {g : Nat} {b : Int} {A : Option Addr} {n c : Nat} {ps : List (Int × Int)}
theorem Bld.begin {w0 : World} {g : Nat} {b : Int} (h0 : w0.cell? ⟨g, 0, none⟩ = some (.int .i64 b)) (h1 : w0.cell? ⟨g, 1, none⟩ = some (.slice none 0 0)) (hf : w0.frozen? ⟨g, 1, none⟩ = false) : Bld w0 g b w0 none 0 0 [] :=
  ⟨block_lt_of_cell h0, World.grownBy.refl _ _, h0, h1, hf, World.ownsRow_nil _ _ _ _, rfl⟩
theorem Bld.below (h : Bld w0 g b wr A n c ps) (hb : Below wr.heap.size wr w') : Bld w0 g b w' A n c ps := by
  have hgl := Nat.lt_of_lt_of_le h.gl h.kept.size
  exact ⟨h.gl, gb_trans h.kept ⟨hb.os, hb.tape, hb.output, hb.size, fun k hk _ => hb.block k hk⟩, (hb.cell hgl).trans h.g0, (hb.cell hgl).trans h.g1, (hb.frozen hgl).trans h.f1, own_below h.own hb, h.len⟩
theorem Bld.drew (h : Bld w0 g b wr A n c ps) : Bld w0 g b wr.drew A n c ps := h.below (Below.refl _ _).drew
theorem Bld.alloc (h : Bld w0 g b wr A n c ps) (o : Obj) : Bld w0 g b (wr.alloc o) A n c ps := h.below ((Below.refl _ _).alloc (Nat.le_refl _) o)
/-- What was there. -/
theorem Bld.cell (h : Bld w0 g b wr A n c ps) {k i : Nat} {v : Value} (hk : k ≠ g) (hc : w0.cell? ⟨k, i, none⟩ = some v) : wr.cell? ⟨k, i, none⟩ = some v := h.kept.cell hc (fun e => hk (Option.some.inj e))
theorem Bld.frozen (h : Bld w0 g b wr A n c ps) {k i : Nat} (hk : k ≠ g) (hl : k < w0.heap.size) : wr.frozen? ⟨k, i, none⟩ = w0.frozen? ⟨k, i, none⟩ :=
  World.frozen?_of_block (w := w0) (h.kept.block k hl (fun e => hk (Option.some.inj e)))
theorem Bld.has (h : Bld w0 g b wr A n c ps) {k : Nat} {cs : List Value} (hk : k ≠ g) (hc : Has w0 k cs) : Has wr k cs := fun j v hj => h.cell hk (hc j v hj)
theorem Bld.row (h : Bld w0 g b wr A n c ps) {base : Nat} {t : TypeId} {s m d : Nat} {B : Option Addr} {xs : List Value} (ho : w0.ownsRow base t s (.slice B m d) m xs) (hg : g < base) : At wr B xs := by
  refine own_read (ho.kept h.kept ?_)
  cases hk : (Value.slice B m d).ownBlock with
  | none => exact .inl rfl
  | some k => exact .inr (fun e => by have := (ho.lt k hk).1; have := Option.some.inj e; omega)
theorem Bld.under (h : Bld w0 g b wr A n c ps) {w : World} (hb : Below w.heap.size w w0) (hg : w.heap.size ≤ g) : Below w.heap.size w wr := hb.grown h.kept hb.size (fun k hk => by have := Option.some.inj hk; omega)
/-- A part is put behind the others. -/
theorem Bld.store (h : Bld w0 g b wr A n c ps) {A' : Option Addr} {c' m : Nat} {q : Int × Int} (hap : Apped w0.heap.size 56 2 (.slice A n c) m (ptcells ps ++ ptcells [q]) wr (.slice A' m c') w') (hm : m = n + 1) :
    Bld w0 g b (w'.setCell ⟨g, 1, none⟩ (.slice A' m c')) A' m c' (ps ++ [q]) := by
  have hgl := Nat.lt_of_lt_of_le h.gl h.kept.size
  have hrow : ∀ k, (Value.slice A n c).ownBlock = some k → w0.heap.size ≤ k := fun k hk => (h.own.lt k hk).1
  have hrow' : ∀ k, (Value.slice A' m c').ownBlock = some k → k ≠ g := fun k hk => by
    have := (hap.own.lt k hk).1; have := h.gl; omega
  have hb : ∀ k, k ≠ g → (w'.setCell ⟨g, 1, none⟩ (.slice A' m c')).heap[k]? = w'.heap[k]? := fun k hk => Below.heap_setCell _ _ _ _ (by simpa using hk)
  have hne : (Value.slice A n c).ownBlock ≠ some g := fun e => by have := hrow g e; have := h.gl; omega
  have eg : w'.heap[g]? = wr.heap[g]? := hap.grown.block g hgl (fun e => hne e.symm)
  refine ⟨h.gl, ⟨hap.grown.os.trans h.kept.os, hap.grown.tape.trans h.kept.tape, hap.grown.output.trans h.kept.output, by have := hap.grown.size; have := h.kept.size; simp; omega, fun k hk hkg => ?_⟩, ?_, ?_, ?_, ?_, by rw [List.length_append, h.len, hm]; rfl⟩
  · have hk' : k ≠ g := fun e => hkg (by rw [e])
    rw [hb k hk', hap.grown.block k (by have := h.kept.size; omega) (fun e => by have := hrow k e.symm; omega)]
    exact h.kept.block k hk hkg
  · rw [World.cell?_setCell_other (a := _) (b := _) (h := by simp), World.cell?_of_block (w := wr) eg]; exact h.g0
  · exact World.cell?_setCell_same _ _ _ ((World.cell?_of_block (w := wr) eg).trans h.g1)
  · have e : w'.frozen? ⟨g, 1, none⟩ = wr.frozen? ⟨g, 1, none⟩ := World.frozen?_of_block (w := wr) eg
    simpa [e] using h.f1
  · rw [ptcells_append]
    exact hap.own.kept (w' := w'.setCell ⟨g, 1, none⟩ (.slice A' m c')) (row := some g) ⟨rfl, rfl, rfl, by simp, fun k _ hkg => hb k (fun e => hkg (by rw [e]))⟩ (by
      cases hk : (Value.slice A' m c').ownBlock with
      | none => exact .inl rfl
      | some k => exact .inr (fun e => hrow' k hk (Option.some.inj e)))
end
end Go.Proofs.Ytjdnobihhkmmpaa
