/-
  A label in the making whose block is written whole, again and again; kept while blocks that are no cells turn.
-/
import Derived.RangeFuncFrom
import Derived.Test.YtjdnobihhkmmpaaBld
import Derived.Test.YtjdnobihhkmmpaaTaintPure
namespace Go.Proofs.Ytjdnobihhkmmpaa
set_option maxRecDepth 100000
open Go.RowKit

/-- The label is made in block g; w0: the world in which it was begun. -/
structure Mk (w0 : World) (g : Nat) (wr : World) (A : Option Addr) (n c : Nat) (l : Lab) : Prop where
  b : Bld w0 g l.base wr A n c l.parts
  f0 : wr.frozen? ⟨g, 0, none⟩ = false
section
variable {w0 wr w' : World} {g : Nat} {A : Option Addr} {n c : Nat} {l : Lab}
theorem Mk.gl (h : Mk w0 g wr A n c l) : g < wr.heap.size := Nat.lt_of_lt_of_le h.b.gl h.b.kept.size
theorem Mk.below (h : Mk w0 g wr A n c l) (hb : Below wr.heap.size wr w') : Mk w0 g w' A n c l := ⟨h.b.below hb, (hb.frozen h.gl).trans h.f0⟩
theorem Mk.drew (h : Mk w0 g wr A n c l) : Mk w0 g wr.drew A n c l := h.below (Below.refl _ _).drew
theorem Mk.alloc (h : Mk w0 g wr A n c l) (o : Obj) : Mk w0 g (wr.alloc o) A n c l := h.below ((Below.refl _ _).alloc (Nat.le_refl _) o)
theorem Mk.under (h : Mk w0 g wr A n c l) {w : World} (hb : Below w.heap.size w w0) (hg : w.heap.size ≤ g) : Below w.heap.size w wr := h.b.under hb hg
theorem Mk.rd (h : Mk w0 g wr A n c l) (hn : n ≤ 1048576) : RdLab wr (.agg #[.int .i64 l.base, .slice A n c]) l := OwnLab.rd (base := w0.heap.size) ⟨A, n, c, rfl, h.b.len, hn, h.b.own⟩
/-- Another label is put there. -/
theorem Mk.put (h : Mk w0 g wr A n c l) (hb : Below wr.heap.size wr w') {A' : Option Addr} {n' c' : Nat} {m : Lab} (ho : OwnLab wr.heap.size w' (.agg #[.int .i64 m.base, .slice A' n' c']) m) :
    Mk w0 g ((w'.setCell ⟨g, 0, none⟩ (.int .i64 m.base)).setCell ⟨g, 1, none⟩ (.slice A' n' c')) A' n' c' m := by
  have hl := h.gl
  have h2 := h.below hb
  have k0 := gb_set (i := 0) h2.b.kept (.int .i64 m.base)
  have k1 := gb_set (i := 1) k0 (.slice A' n' c')
  have ho2 := ((ho.past (i := 0) (u := .int .i64 m.base) hl).past (i := 1) (u := .slice A' n' c') hl).lower (Nat.le_trans h.b.kept.size (Nat.le_refl _))
  obtain ⟨A2, n2, c2, he, hlen, -, hown⟩ := ho2
  simp only [Value.agg.injEq, Array.mk.injEq, List.cons.injEq, Value.slice.injEq, and_true, true_and] at he
  obtain ⟨rfl, rfl, rfl⟩ := he
  refine ⟨⟨h.b.gl, k1, ?_, ?_, ?_, hown, hlen⟩, ?_⟩
  · rw [World.cell?_setCell_other (a := _) (b := _) (h := by simp)]
    exact World.cell?_setCell_same _ _ _ h2.b.g0
  · refine World.cell?_setCell_same (u := .slice A n c) _ _ _ ?_
    rw [World.cell?_setCell_other (a := _) (b := _) (h := by simp)]
    exact h2.b.g1
  · have := h2.b.f1; simpa using this
  · have := h2.f0; simpa using this
/-- Blocks that are no cells turn. -/
theorem Mk.turned (h : Mk w0 g wr A n c l) {row : Option Nat} (hg : wr.grownBy w' row) (hr : ∀ r, row = some r → w0.heap.size ≤ r ∧ ∃ o : Obj, wr.heap[r]? = some o ∧ o.isCells = false) : Mk w0 g w' A n c l := by
  have hc : ∀ r, row = some r → ∃ o : Obj, wr.heap[r]? = some o ∧ o.isCells = false := fun r e => (hr r e).2
  refine ⟨⟨h.b.gl, ⟨hg.os.trans h.b.kept.os, hg.tape.trans h.b.kept.tape, hg.output.trans h.b.kept.output, Nat.le_trans h.b.kept.size hg.size, fun k hk hne => ?_⟩, cell_kept h.b.g0 hg hc, cell_kept h.b.g1 hg hc, (frozen_kept h.b.g1 hg hc).trans h.b.f1, h.b.own.kept hg ?_, h.b.len⟩, (frozen_kept h.b.g0 hg hc).trans h.f0⟩
  · refine (hg.block k (Nat.lt_of_lt_of_le hk h.b.kept.size) (fun e => ?_)).trans (h.b.kept.block k hk hne)
    have := (hr k e.symm).1
    omega
  · rcases h.b.own.2 with ⟨e, _⟩ | ⟨q, cap, cur, e, _, hq, _⟩
    · exact .inl (by rw [e]; rfl)
    · refine .inr fun e' => ?_
      rw [e] at e'
      obtain ⟨o, ho, hc'⟩ := hc q (by simpa [Value.ownBlock] using e'.symm)
      rw [hq] at ho
      cases ho
      cases hc'
end
/-- A label in the making, just begun: a boxed label and a result's block ahead of it. -/
theorem laid3 {w w1 : World} {a0 a1 r0 r1 g0 g1 : Value} {t : TypeId} (hW : ((w.alloc (.cells #[a0, a1] t)).alloc (.cells #[r0, r1] t)).alloc (.cells #[g0, g1] t) = w1) :
    w1.heap.size = w.heap.size + 1 + 1 + 1 ∧ Below w.heap.size w w1 ∧ Has w1 w.heap.size [a0, a1] ∧ Has w1 (w.heap.size + 1) [r0, r1] ∧ Has w1 (w.heap.size + 1 + 1) [g0, g1] ∧ ∀ k i, w.heap.size ≤ k → k < w1.heap.size → w1.frozen? ⟨k, i, none⟩ = false := by
  subst hW
  refine ⟨by simp, by go_grown, fun j v hj => ?_, fun j v hj => ?_, fun j v hj => ?_, fun k i h1 h2 => ?_⟩
  · have : j < 2 := by rcases Nat.lt_or_ge j 2 with h | h; exact h; rw [List.getElem?_eq_none (by simpa using h)] at hj; cases hj
    match j, this with
    | 0, _ => cases hj; simp [go_sem]
    | 1, _ => cases hj; simp [go_sem]
  · have : j < 2 := by rcases Nat.lt_or_ge j 2 with h | h; exact h; rw [List.getElem?_eq_none (by simpa using h)] at hj; cases hj
    match j, this with
    | 0, _ => cases hj; simp [go_sem]
    | 1, _ => cases hj; simp [go_sem]
  · have : j < 2 := by rcases Nat.lt_or_ge j 2 with h | h; exact h; rw [List.getElem?_eq_none (by simpa using h)] at hj; cases hj
    match j, this with
    | 0, _ => cases hj; simp [go_sem]
    | 1, _ => cases hj; simp [go_sem]
  · simp at h2
    obtain rfl | rfl | rfl : k = w.heap.size ∨ k = w.heap.size + 1 ∨ k = w.heap.size + 1 + 1 := by omega
    all_goals simp [go_sem]
/-- What a round keeps: all that lay below N, but for block g. -/
structure KeepBut (g N : Nat) (W W' : World) : Prop where
  os : W'.os = W.os
  tape : W'.tape = W.tape
  output : W'.output = W.output
  size : W.heap.size ≤ W'.heap.size
  block : ∀ k, k < N → k ≠ g → W'.heap[k]? = W.heap[k]?
theorem KeepBut.refl (g N : Nat) (W : World) : KeepBut g N W W := ⟨rfl, rfl, rfl, Nat.le_refl _, fun _ _ _ => rfl⟩
theorem KeepBut.trans {g N : Nat} {X Y Z : World} (h : KeepBut g N X Y) (k : KeepBut g N Y Z) : KeepBut g N X Z := ⟨k.os.trans h.os, k.tape.trans h.tape, k.output.trans h.output, Nat.le_trans h.size k.size, fun i hi hg => (k.block i hi hg).trans (h.block i hi hg)⟩
theorem KeepBut.below {g N : Nat} {X Y : World} (hN : N ≤ X.heap.size) (h : Below X.heap.size X Y) : KeepBut g N X Y := ⟨h.os, h.tape, h.output, h.size, fun k hk _ => h.block k (by omega)⟩
theorem KeepBut.set {g N : Nat} (X : World) (i : Nat) (v : Value) : KeepBut g N X (X.setCell ⟨g, i, none⟩ v) := ⟨rfl, rfl, rfl, by simp, fun k _ hk => Below.heap_setCell _ _ _ k (by simpa using hk)⟩
theorem KeepBut.b {g N : Nat} (W : World) (l : Nat) {o : Obj} (o' : Obj) (hl : N ≤ l) (_h : W.heap[l]? = some o) (_c : o.isCells = false) (_k : o.isWalk = false) : KeepBut g N W (W.putObj l o') := ⟨rfl, rfl, rfl, by simp, fun k hk _ => World.putObj_heap_other (by omega)⟩
theorem keepsOthers_below {X Y : World} (h : Below X.heap.size X Y) : KeepsOthers X Y := ⟨h.size, fun k _ hk _ => (h.block k (Array.getElem?_eq_some_iff.1 hk).1).trans hk⟩
/-- What was there when the loop began, read in a round. -/
theorem KeepBut.grown {g : Nat} {X Y : World} (h : KeepBut g X.heap.size X Y) : X.grownBy Y (some g) := ⟨h.os, h.tape, h.output, h.size, fun k hk hne => h.block k hk (fun e => hne (by rw [e]))⟩
end Go.Proofs.Ytjdnobihhkmmpaa
