/-
  The draw of any label, right or not (chapter 2 of the model): some label of the call's own; the cursor stays one; nothing else is written.
-/
import Derived.Test.YtoaglephpkmaeaaDrawBase
import Derived.Test.YtoaglephpkmaeaaApp

namespace Go.Proofs.Ytoaglephpkmaeaa
set_option maxRecDepth 100000
open Go.RowKit

/-- What the drawing keeps: the result's block, the label's block g, the label in it, the cursor. -/
structure Dr (p : Nat) (a : Option Addr) (len cap g : Nat) (w wr : World) (A : Option Addr) (n c : Nat) (l : Lab) : Prop where
  cur : IsCur p a len cap wr
  grown : w.grownBy wr (some p)
  hg : w.heap.size < g
  gl : g < wr.heap.size
  r0 : wr.cell? ⟨w.heap.size, 0, none⟩ = some (.int .i64 0)
  r1 : wr.cell? ⟨w.heap.size, 1, none⟩ = some (.slice none 0 0)
  f0 : wr.frozen? ⟨w.heap.size, 0, none⟩ = false
  f1 : wr.frozen? ⟨w.heap.size, 1, none⟩ = false
  o0 : wr.frozen? ⟨g, 0, none⟩ = false
  o1 : wr.frozen? ⟨g, 1, none⟩ = false
  d0 : wr.cell? ⟨g, 0, none⟩ = some (.int .i64 l.base)
  d1 : wr.cell? ⟨g, 1, none⟩ = some (.slice A n c)
  own : wr.ownsRow (w.heap.size + 1) 47 2 (.slice A n c) n (ptcells l.parts)
  apart : ∀ k, (Value.slice A n c).ownBlock = some k → k ≠ g
  len : l.parts.length = n
  few : n ≤ 100

theorem Dr.gbrow {p : Nat} {a : Option Addr} {len cap g : Nat} {w wr w' : World} {A : Option Addr} {n c : Nat} {l : Lab} (h : Dr p a len cap g w wr A n c l) (hp : p < w.heap.size) {row : Option Nat} (hc : IsCur p a len cap w') (hg : wr.grownBy w' row)
    (hrow : ∀ k, row = some k → k = p ∨ (w.heap.size < k ∧ k ≠ g)) {A' : Option Addr} {n' c' : Nat} {l' : Lab} (hb : l'.base = l.base) (hd1 : w'.cell? ⟨g, 1, none⟩ = some (.slice A' n' c')) (own : w'.ownsRow (w.heap.size + 1) 47 2 (.slice A' n' c') n' (ptcells l'.parts)) (apart : ∀ k, (Value.slice A' n' c').ownBlock = some k → k ≠ g) (hl : l'.parts.length = n') (hf : n' ≤ 100) : Dr p a len cap g w w' A' n' c' l' := by
  have hs := h.grown.size
  have hgl := h.gl
  have hgg := h.hg
  have eb : ∀ b, b = w.heap.size ∨ b = g → w'.heap[b]? = wr.heap[b]? := fun b hb => hg.block b (by omega) (fun e => by rcases hrow b e.symm with q | q <;> omega)
  have ec : ∀ b i, b = w.heap.size ∨ b = g → w'.cell? ⟨b, i, none⟩ = wr.cell? ⟨b, i, none⟩ := fun b i hb => World.cell?_of_block (w := wr) (eb b hb)
  have ef : ∀ b i, b = w.heap.size ∨ b = g → w'.frozen? ⟨b, i, none⟩ = wr.frozen? ⟨b, i, none⟩ := fun b i hb => World.frozen?_of_block (w := wr) (eb b hb)
  refine ⟨hc, ⟨hg.os.trans h.grown.os, hg.tape.trans h.grown.tape, hg.output.trans h.grown.output, Nat.le_trans hs hg.size, fun b hb hne => ?_⟩, hgg, Nat.lt_of_lt_of_le hgl hg.size, by rw [ec _ _ (.inl rfl)]; exact h.r0, by rw [ec _ _ (.inl rfl)]; exact h.r1,
    by rw [ef _ _ (.inl rfl)]; exact h.f0, by rw [ef _ _ (.inl rfl)]; exact h.f1, by rw [ef _ _ (.inr rfl)]; exact h.o0, by rw [ef _ _ (.inr rfl)]; exact h.o1, by rw [ec _ _ (.inr rfl), hb]; exact h.d0, hd1, own, apart, hl, hf⟩
  rw [hg.block b (by omega) (fun e => by rcases hrow b e.symm with q | q; exact hne (by rw [q]); omega)]
  exact h.grown.block b hb hne
theorem Dr.gb {p : Nat} {a : Option Addr} {len cap g : Nat} {w wr w' : World} {A : Option Addr} {n c : Nat} {l : Lab} (h : Dr p a len cap g w wr A n c l) (hp : p < w.heap.size) (hc : IsCur p a len cap w') (hg : wr.grownBy w' (some p)) : Dr p a len cap g w w' A n c l := by
  have hgl := h.gl
  have hgg := h.hg
  refine h.gbrow hp hc hg (fun k hk => .inl (Option.some.inj hk).symm) rfl ?_ ?_ h.apart h.len h.few
  · rw [World.cell?_of_block (w := wr) (hg.block g hgl (fun e => by have := Option.some.inj e; omega))]; exact h.d1
  · refine h.own.kept hg ?_
    cases hk : (Value.slice A n c).ownBlock with
    | none => exact .inl rfl
    | some k => exact .inr (fun e => by have := (h.own.lt k hk).1; have := Option.some.inj e; omega)
theorem Dr.alloc {p : Nat} {a : Option Addr} {len cap g : Nat} {w wr : World} {A : Option Addr} {n c : Nat} {l : Lab} (h : Dr p a len cap g w wr A n c l) (hp : p < w.heap.size) (o : Obj) : Dr p a len cap g w (wr.alloc o) A n c l := h.gb hp (h.cur.alloc o) (World.grownBy_alloc _ _ _)
theorem Dr.drew {p : Nat} {a : Option Addr} {len cap g : Nat} {w wr : World} {A : Option Addr} {n c : Nat} {l : Lab} (h : Dr p a len cap g w wr A n c l) (hp : p < w.heap.size) : Dr p a len cap g w wr.drew A n c l := h.gb hp h.cur.drew (gb_drew (World.grownBy.refl _ _))

/-- The base is set. -/
theorem Dr.base {p : Nat} {a : Option Addr} {len cap g : Nat} {w wr : World} {A : Option Addr} {n c : Nat} {l : Lab} (h : Dr p a len cap g w wr A n c l) (hp : p < w.heap.size) (x : Int) :
    Dr p a len cap g w (wr.setCell ⟨g, 0, none⟩ (.int .i64 x)) A n c ⟨x, l.parts⟩ := by
  have hgl := h.gl
  have hgg := h.hg
  have hb : ∀ k, k ≠ g → (wr.setCell ⟨g, 0, none⟩ (.int .i64 x)).heap[k]? = wr.heap[k]? := fun k hk => Below.heap_setCell _ _ _ _ (by simpa using hk)
  refine ⟨h.cur.block (hb p (by omega)), ⟨h.grown.os, h.grown.tape, h.grown.output, by simpa using h.grown.size, fun k hk hne => by rw [hb k (by omega)]; exact h.grown.block k hk hne⟩, hgg, by simpa using hgl,
    by rw [World.cell?_of_block (w := wr) (hb _ (by simp only []; omega))]; exact h.r0, by rw [World.cell?_of_block (w := wr) (hb _ (by simp only []; omega))]; exact h.r1, by simpa using h.f0, by simpa using h.f1, by simpa using h.o0, by simpa using h.o1,
    World.cell?_setCell_same _ _ _ h.d0, by rw [World.cell?_setCell_other (a := _) (b := _) (h := by simp)]; exact h.d1, ?_, h.apart, h.len, h.few⟩
  exact h.own.kept (w' := wr.setCell ⟨g, 0, none⟩ (.int .i64 x)) (row := some g) ⟨rfl, rfl, rfl, by simp, fun k _ hne => hb k (fun e => hne (by rw [e]))⟩ (by
    cases hk : (Value.slice A n c).ownBlock with
    | none => exact .inl rfl
    | some k => exact .inr (fun e => h.apart k hk (Option.some.inj e)))
/-- A longer row is stored into the label. -/
theorem Dr.store {p : Nat} {a : Option Addr} {len cap g : Nat} {w wr w' : World} {A : Option Addr} {n c m : Nat} {l : Lab} {A' : Option Addr} {n' c' : Nat} {ps : List (Int × Int)} (h : Dr p a len cap g w wr A n c l) (hp : p < w.heap.size)
    (hap : Apped (w.heap.size + 1) 47 2 (.slice A n c) m (ptcells (l.parts ++ ps)) wr (.slice A' n' c') w') (hn : n' = m) (hm : (l.parts ++ ps).length = m) (hf : m ≤ 100) :
    Dr p a len cap g w (w'.setCell ⟨g, 1, none⟩ (.slice A' n' c')) A' n' c' ⟨l.base, l.parts ++ ps⟩ := by
  subst hn
  have hgl := h.gl
  have hgg := h.hg
  have hs := hap.grown.size
  have hb : ∀ k, k ≠ g → (w'.setCell ⟨g, 1, none⟩ (.slice A' n' c')).heap[k]? = w'.heap[k]? := fun k hk => Below.heap_setCell _ _ _ _ (by simpa using hk)
  have hrow : ∀ k, (Value.slice A n c).ownBlock = some k → w.heap.size < k ∧ k ≠ g := fun k hk => ⟨by have := (h.own.lt k hk).1; omega, h.apart k hk⟩
  have hap' : ∀ k, (Value.slice A' n' c').ownBlock = some k → k ≠ g := fun k hk => by
    rcases hap.block with e | e
    · exact h.apart k (by rw [← e]; exact hk)
    · rw [hk] at e; have := Option.some.inj e; omega
  have ek : ∀ k, k ≠ g → k < wr.heap.size → (∀ j, (Value.slice A n c).ownBlock = some j → j ≠ k) → (w'.setCell ⟨g, 1, none⟩ (.slice A' n' c')).heap[k]? = wr.heap[k]? := fun k hk hl hj => (hb k hk).trans (hap.grown.block k hl (fun e => hj k e.symm rfl))
  have e0 : ∀ i, w'.cell? ⟨g, i, none⟩ = wr.cell? ⟨g, i, none⟩ := fun i => World.cell?_of_block (w := wr) (hap.grown.block g hgl (fun e => h.apart g e.symm rfl))
  have ef0 : ∀ i, w'.frozen? ⟨g, i, none⟩ = wr.frozen? ⟨g, i, none⟩ := fun i => World.frozen?_of_block (w := wr) (hap.grown.block g hgl (fun e => h.apart g e.symm rfl))
  have er : (w'.setCell ⟨g, 1, none⟩ (.slice A' n' c')).heap[w.heap.size]? = wr.heap[w.heap.size]? := ek _ (by omega) (by omega) (fun j hj => by have := hrow j hj; omega)
  refine ⟨h.cur.block (ek p (by omega) h.cur.lt (fun j hj => by have := hrow j hj; omega)), ⟨hap.grown.os.trans h.grown.os, hap.grown.tape.trans h.grown.tape, hap.grown.output.trans h.grown.output, by have := h.grown.size; simp; omega, fun k hk hne => by
      rw [ek k (by omega) (by have := h.grown.size; omega) (fun j hj => by have := hrow j hj; omega)]; exact h.grown.block k hk hne⟩, hgg, by simp; omega,
    by rw [World.cell?_of_block (w := wr) er]; exact h.r0, by rw [World.cell?_of_block (w := wr) er]; exact h.r1, by rw [World.frozen?_of_block (w := wr) er]; exact h.f0, by rw [World.frozen?_of_block (w := wr) er]; exact h.f1,
    by simpa [ef0] using h.o0, by simpa [ef0] using h.o1, by rw [World.cell?_setCell_other (a := _) (b := _) (h := by simp), e0]; exact h.d0, World.cell?_setCell_same _ _ _ ((e0 1).trans h.d1), ?_, hap', by simpa using hm, hf⟩
  exact hap.own.kept (w' := w'.setCell ⟨g, 1, none⟩ (.slice A' n' c')) (row := some g) ⟨rfl, rfl, rfl, by simp, fun k _ hne => hb k (fun e => hne (by rw [e]))⟩ (by
    cases hk : (Value.slice A' n' c').ownBlock with
    | none => exact .inl rfl
    | some k => exact .inr (fun e => hap' k hk (Option.some.inj e)))
/-- A cell of the label's row is set. -/
theorem Dr.cell {p : Nat} {a : Option Addr} {len cap g b : Nat} {w wr : World} {n c : Nat} {l : Lab} (h : Dr p a len cap g w wr (some ⟨b, 0, none⟩) n c l) (hp : p < w.heap.size) (j : Nat) (u : Value) (ps : List (Int × Int)) (hps : setAll (ptcells l.parts) j [u] = ptcells ps) (hl : ps.length = n) :
    Dr p a len cap g w (wr.setCell ⟨b, j, none⟩ u) (some ⟨b, 0, none⟩) n c ⟨l.base, ps⟩ := by
  have hk := h.own.lt b rfl
  have hb := h.apart b rfl
  obtain ⟨o1, o2⟩ := own_set1 h.own j u
  have hgl := h.gl
  have hgg := h.hg
  refine h.gbrow hp (h.cur.block (Below.heap_setCell _ _ _ _ (by simp only []; omega))) o2 (fun k hk' => .inr (by have := Option.some.inj hk'; omega)) rfl ?_ (by rw [hps] at o1; exact o1) h.apart hl h.few
  rw [World.cell?_setCell_other (a := _) (b := _) (h := fun e => hb (by cases e; rfl))]
  exact h.d1
/-- The label is begun anew. -/
theorem Dr.reset {p : Nat} {a : Option Addr} {len cap g : Nat} {w wr : World} {A : Option Addr} {n c : Nat} {l : Lab} (h : Dr p a len cap g w wr A n c l) (hp : p < w.heap.size) (x : Int) :
    Dr p a len cap g w ((wr.setCell ⟨g, 0, none⟩ (.int .i64 x)).setCell ⟨g, 1, none⟩ (.slice none 0 0)) none 0 0 ⟨x, []⟩ := by
  have h1 := h.base hp x
  have hgg := h.hg
  have hgl := h1.gl
  have hb : ∀ k, k ≠ g → ((wr.setCell ⟨g, 0, none⟩ (.int .i64 x)).setCell ⟨g, 1, none⟩ (.slice none 0 0)).heap[k]? = (wr.setCell ⟨g, 0, none⟩ (.int .i64 x)).heap[k]? := fun k hk => Below.heap_setCell _ _ _ _ (by simpa using hk)
  refine ⟨h1.cur.block (hb p (by omega)), ⟨h1.grown.os, h1.grown.tape, h1.grown.output, by simpa using h1.grown.size, fun k hk hne => by rw [hb k (by omega)]; exact h1.grown.block k hk hne⟩, hgg, by simpa using h.gl,
    by rw [World.cell?_of_block (hb _ (by simp only []; omega))]; exact h1.r0, by rw [World.cell?_of_block (hb _ (by simp only []; omega))]; exact h1.r1, by simpa using h1.f0, by simpa using h1.f1, by simpa using h1.o0, by simpa using h1.o1,
    by rw [World.cell?_setCell_other (a := _) (b := _) (h := by simp)]; exact h1.d0, World.cell?_setCell_same _ _ _ h1.d1, World.ownsRow_nil _ _ _ _, (fun k hk => by simp [Value.ownBlock] at hk), rfl, by omega⟩
theorem Dr.done {p : Nat} {a : Option Addr} {len cap g : Nat} {w wr : World} {A : Option Addr} {n c : Nat} {l : Lab} (h : Dr p a len cap g w wr A n c l) (hp : p < w.heap.size) :
    DrawnLab 100 p a len cap w (.returned (.agg #[.int .i64 l.base, .slice A n c])) ((wr.setCell ⟨w.heap.size, 0, none⟩ (.int .i64 l.base)).setCell ⟨w.heap.size, 1, none⟩ (.slice A n c)) := by
  have hgg := h.hg
  have hb : ∀ k, k ≠ w.heap.size → ((wr.setCell ⟨w.heap.size, 0, none⟩ (.int .i64 l.base)).setCell ⟨w.heap.size, 1, none⟩ (.slice A n c)).heap[k]? = wr.heap[k]? := fun k hk => by rw [Below.heap_setCell _ _ _ _ (by simpa using hk), Below.heap_setCell _ _ _ _ (by simpa using hk)]
  refine ⟨_, l, rfl, ⟨A, n, c, rfl, h.len, by have := h.few; omega, own_lower (ownsRow_setCell_below (ownsRow_setCell_below h.own (by simp only []; omega) _) (by simp only []; omega) _) (by omega)⟩, by have := h.few; have := h.len; omega, h.cur.block (hb p (by omega)), ⟨h.grown.os, h.grown.tape, h.grown.output, by simpa using h.grown.size, fun k hk hne => by rw [hb k (by omega)]; exact h.grown.block k hk hne⟩⟩
end Go.Proofs.Ytoaglephpkmaeaa
