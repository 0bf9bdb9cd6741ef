/-
  The draws of terms: what the drawing keeps. The cursor in block p, the result's block, the terms in the making in block g, their rows behind it.
-/
import Derived.Test.YtnpeojlhjbdjiaaGreatDoorCur
import Derived.Test.YtnpeojlhjbdjiaaGreatDoorTm
namespace Go.Proofs.YtnpeojlhjbdjiaaGreatDoor
set_option maxRecDepth 100000
open Go.RowKit

structure DrT (p : Nat) (a : Option Addr) (len cap g : Nat) (w wr : World) (rs cs : List Value) : Prop where
  cur : IsCur p a len cap wr
  grown : w.grownBy wr (some p)
  hg : w.heap.size < g
  rb : Box wr w.heap.size rs
  gb : Box wr g cs
section
variable {p : Nat} {a : Option Addr} {len cap g : Nat} {w wr w' : World} {rs cs : List Value}
theorem box_gb {k : Nat} {vs : List Value} (h : Box wr k vs) (hg : wr.grownBy w' (some p)) (hk : k ≠ p) : Box w' k vs :=
  ⟨fun j v hj => keep_cell hg (h.has j v hj) hk, fun j => (keep_frozen hg h.lt hk).trans (h.free j), Nat.lt_of_lt_of_le h.lt hg.size⟩
theorem DrT.gbr (h : DrT p a len cap g w wr rs cs) (hp : p < w.heap.size) (hc : IsCur p a len cap w') (hg : wr.grownBy w' (some p)) : DrT p a len cap g w w' rs cs :=
  ⟨hc, gb_trans h.grown hg, h.hg, box_gb h.rb hg (by omega), box_gb h.gb hg (by have := h.hg; omega)⟩
theorem DrT.below (h : DrT p a len cap g w wr rs cs) (hp : p < w.heap.size) (hb : Below wr.heap.size wr w') : DrT p a len cap g w w' rs cs :=
  h.gbr hp (h.cur.block (hb.block p h.cur.lt)) (gb_of_below hb _)
theorem DrT.alloc (h : DrT p a len cap g w wr rs cs) (hp : p < w.heap.size) (o : Obj) : DrT p a len cap g w (wr.alloc o) rs cs := h.below hp ((Below.refl _ _).alloc (Nat.le_refl _) o)
theorem DrT.drew (h : DrT p a len cap g w wr rs cs) (hp : p < w.heap.size) : DrT p a len cap g w wr.drew rs cs := h.below hp (Below.refl _ _).drew
theorem DrT.set (h : DrT p a len cap g w wr rs cs) (hp : p < w.heap.size) {i : Nat} (hi : i < cs.length) (u : Value) : DrT p a len cap g w (wr.setCell ⟨g, i, none⟩ u) rs (cs.set i u) := by
  have hgg := h.hg
  have hb : ∀ k, k ≠ g → (wr.setCell ⟨g, i, none⟩ u).heap[k]? = wr.heap[k]? := fun k hk => Below.heap_setCell _ _ _ _ (by simpa using hk)
  exact ⟨h.cur.block (hb p (by omega)), ⟨h.grown.os, h.grown.tape, h.grown.output, by simpa using h.grown.size, fun k hk hne => by rw [hb k (by omega)]; exact h.grown.block k hk hne⟩, hgg, h.rb.far (by omega), h.gb.set hi⟩
/-- The cursor and all that was there: the result's block is written. -/
theorem DrT.setr (h : IsCur p a len cap wr ∧ w.grownBy wr (some p)) (hp : p < w.heap.size) {i : Nat} (u : Value) : IsCur p a len cap (wr.setCell ⟨w.heap.size, i, none⟩ u) ∧ w.grownBy (wr.setCell ⟨w.heap.size, i, none⟩ u) (some p) := by
  have hb : ∀ k, k ≠ w.heap.size → (wr.setCell ⟨w.heap.size, i, none⟩ u).heap[k]? = wr.heap[k]? := fun k hk => Below.heap_setCell _ _ _ _ (by simpa using hk)
  exact ⟨h.1.block (hb p (by omega)), ⟨h.2.os, h.2.tape, h.2.output, by simpa using h.2.size, fun k hk hne => by rw [hb k (by omega)]; exact h.2.block k hk hne⟩⟩
end

/-- A label whose row lies from base on, and not in block g. -/
def OffLab (base g : Nat) (w : World) (v : Value) (l : Lab) : Prop := OwnLab base w v l ∧ ∀ k, (labRow v).ownBlock = some k → k ≠ g
section
variable {base g p : Nat} {w w' : World} {v : Value} {l : Lab}
theorem OffLab.gbr (h : OffLab base g w v l) (hg : w.grownBy w' (some p)) (hp : p < base) : OffLab base g w' v l := ⟨h.1.kept hg (fun k hk => by have := Option.some.inj hk; omega), h.2⟩
theorem OffLab.below (h : OffLab base g w v l) (hb : Below w.heap.size w w') : OffLab base g w' v l := ⟨h.1.below hb, h.2⟩
theorem OffLab.past {i : Nat} {x : Value} (h : OffLab base g w v l) : OffLab base g (w.setCell ⟨g, i, none⟩ x) v l :=
  ⟨h.1.keptBy (row := some g) ⟨rfl, rfl, rfl, by simp, fun k _ hne => Below.heap_setCell _ _ _ _ (fun e => hne (by rw [e]))⟩ (fun k hk e => h.2 k hk (Option.some.inj e).symm), h.2⟩
theorem OffLab.out {b i : Nat} {x : Value} (h : OffLab base g w v l) (hb : b < base) : OffLab base g (w.setCell ⟨b, i, none⟩ x) v l := ⟨h.1.past hb, h.2⟩
end
theorem OwnLab.off {base base' g : Nat} {w : World} {v : Value} {l : Lab} (h : OwnLab base w v l) (hb : base' ≤ base) (hg : g < base ∨ w.heap.size ≤ g) : OffLab base' g w v l := ⟨h.lower hb, fun k hk => by have := h.row k hk; omega⟩
/-- Terms whose rows lie from base on, and not in block g; each label of at most m parts. -/
def HoldTm (m base g : Nat) (w : World) (v : Value) (t : Tm) : Prop := ∃ (A0 : Option Addr) (n0 c0 : Nat) (A1 : Option Addr) (n1 c1 : Nat) (A2 : Option Addr) (n2 c2 : Nat) (A3 : Option Addr) (n3 c3 : Nat),
  v = .agg #[.int .i64 t.taint.base, .slice A0 n0 c0, .int .i64 t.clear.base, .slice A1 n1 c1, .int .i64 t.raise.base, .slice A2 n2 c2, .int .i64 t.verify.base, .slice A3 n3 c3] ∧
  (OffLab base g w (.agg #[.int .i64 t.taint.base, .slice A0 n0 c0]) t.taint ∧ t.taint.parts.length ≤ m) ∧ (OffLab base g w (.agg #[.int .i64 t.clear.base, .slice A1 n1 c1]) t.clear ∧ t.clear.parts.length ≤ m) ∧
  (OffLab base g w (.agg #[.int .i64 t.raise.base, .slice A2 n2 c2]) t.raise ∧ t.raise.parts.length ≤ m) ∧ (OffLab base g w (.agg #[.int .i64 t.verify.base, .slice A3 n3 c3]) t.verify ∧ t.verify.parts.length ≤ m)
def FewTm (m : Nat) (t : Tm) : Prop := t.taint.parts.length ≤ m ∧ t.clear.parts.length ≤ m ∧ t.raise.parts.length ≤ m ∧ t.verify.parts.length ≤ m
section
variable {m base g p : Nat} {w w' : World} {v : Value} {t : Tm}
theorem HoldTm.map (h : HoldTm m base g w v t) (f : ∀ u l, OffLab base g w u l → OffLab base g w' u l) : HoldTm m base g w' v t := by
  obtain ⟨A0, n0, c0, A1, n1, c1, A2, n2, c2, A3, n3, c3, rfl, ⟨h0, k0⟩, ⟨h1, k1⟩, ⟨h2, k2⟩, h3, k3⟩ := h
  exact ⟨A0, n0, c0, A1, n1, c1, A2, n2, c2, A3, n3, c3, rfl, ⟨f _ _ h0, k0⟩, ⟨f _ _ h1, k1⟩, ⟨f _ _ h2, k2⟩, f _ _ h3, k3⟩
theorem HoldTm.gbr (h : HoldTm m base g w v t) (hg : w.grownBy w' (some p)) (hp : p < base) : HoldTm m base g w' v t := h.map fun _ _ o => o.gbr hg hp
theorem HoldTm.below (h : HoldTm m base g w v t) (hb : Below w.heap.size w w') : HoldTm m base g w' v t := h.map fun _ _ o => o.below hb
theorem HoldTm.out {b i : Nat} {x : Value} (h : HoldTm m base g w v t) (hg : b < base) : HoldTm m base g (w.setCell ⟨b, i, none⟩ x) v t := h.map fun _ _ o => o.out hg
theorem HoldTm.alloc (h : HoldTm m base g w v t) (o : Obj) : HoldTm m base g (w.alloc o) v t := h.below ((Below.refl _ _).alloc (Nat.le_refl _) o)
theorem HoldTm.drew (h : HoldTm m base g w v t) : HoldTm m base g w.drew v t := h.below (Below.refl _ _).drew
theorem HoldTm.more {m' : Nat} (h : HoldTm m base g w v t) (hm : m ≤ m') : HoldTm m' base g w v t := by
  obtain ⟨A0, n0, c0, A1, n1, c1, A2, n2, c2, A3, n3, c3, rfl, ⟨h0, k0⟩, ⟨h1, k1⟩, ⟨h2, k2⟩, h3, k3⟩ := h
  exact ⟨A0, n0, c0, A1, n1, c1, A2, n2, c2, A3, n3, c3, rfl, ⟨h0, by omega⟩, ⟨h1, by omega⟩, ⟨h2, by omega⟩, h3, by omega⟩
theorem HoldTm.few (h : HoldTm m base g w v t) : FewTm m t := by
  obtain ⟨A0, n0, c0, A1, n1, c1, A2, n2, c2, A3, n3, c3, rfl, ⟨h0, k0⟩, ⟨h1, k1⟩, ⟨h2, k2⟩, h3, k3⟩ := h
  exact ⟨k0, k1, k2, k3⟩
theorem HoldTm.lower {base' : Nat} (h : HoldTm m base g w v t) (hb : base' ≤ base) : HoldTm m base' g w v t := by
  obtain ⟨A0, n0, c0, A1, n1, c1, A2, n2, c2, A3, n3, c3, rfl, ⟨h0, k0⟩, ⟨h1, k1⟩, ⟨h2, k2⟩, h3, k3⟩ := h
  exact ⟨A0, n0, c0, A1, n1, c1, A2, n2, c2, A3, n3, c3, rfl, ⟨⟨h0.1.lower hb, h0.2⟩, k0⟩, ⟨⟨h1.1.lower hb, h1.2⟩, k1⟩, ⟨⟨h2.1.lower hb, h2.2⟩, k2⟩, ⟨h3.1.lower hb, h3.2⟩, k3⟩
theorem HoldTm.rd (h : HoldTm m base g w v t) : RdTm w v t := by
  obtain ⟨A0, n0, c0, A1, n1, c1, A2, n2, c2, A3, n3, c3, rfl, ⟨h0, k0⟩, ⟨h1, k1⟩, ⟨h2, k2⟩, h3, k3⟩ := h
  exact ⟨A0, n0, c0, A1, n1, c1, A2, n2, c2, A3, n3, c3, rfl, h0.1.rd, h1.1.rd, h2.1.rd, h3.1.rd⟩
theorem OwnTm.hold {base' : Nat} (h : OwnTm base' w v t) (hb : base ≤ base') (hg : g < base' ∨ w.heap.size ≤ g) (hm : FewTm m t) : HoldTm m base g w v t := by
  obtain ⟨A0, n0, c0, A1, n1, c1, A2, n2, c2, A3, n3, c3, rfl, h0, h1, h2, h3, -⟩ := h
  exact ⟨A0, n0, c0, A1, n1, c1, A2, n2, c2, A3, n3, c3, rfl, ⟨h0.off hb hg, hm.1⟩, ⟨h1.off hb hg, hm.2.1⟩, ⟨h2.off hb hg, hm.2.2.1⟩, h3.off hb hg, hm.2.2.2⟩
theorem HoldTm.again {base' g' : Nat} (h : HoldTm m base' g' w v t) (hb : base ≤ base') (hg : g < base' ∨ w.heap.size ≤ g) : HoldTm m base g w v t := by
  obtain ⟨A0, n0, c0, A1, n1, c1, A2, n2, c2, A3, n3, c3, rfl, ⟨h0, k0⟩, ⟨h1, k1⟩, ⟨h2, k2⟩, h3, k3⟩ := h
  exact ⟨A0, n0, c0, A1, n1, c1, A2, n2, c2, A3, n3, c3, rfl, ⟨h0.1.off hb hg, k0⟩, ⟨h1.1.off hb hg, k1⟩, ⟨h2.1.off hb hg, k2⟩, h3.1.off hb hg, k3⟩
end
/-- Terms in the making. -/
def DrTm (m p : Nat) (a : Option Addr) (len cap g : Nat) (w wr : World) (rs : List Value) (t : Tm) (cs : List Value) : Prop := DrT p a len cap g w wr rs cs ∧ HoldTm m (w.heap.size + 1) g wr (.agg cs.toArray) t
section
variable {m p : Nat} {a : Option Addr} {len cap g : Nat} {w wr w' : World} {rs cs : List Value} {t : Tm}
theorem DrTm.cur (h : DrTm m p a len cap g w wr rs t cs) : IsCur p a len cap wr := h.1.cur
theorem DrTm.grown (h : DrTm m p a len cap g w wr rs t cs) : w.grownBy wr (some p) := h.1.grown
theorem DrTm.gbr (h : DrTm m p a len cap g w wr rs t cs) (hp : p < w.heap.size) (hc : IsCur p a len cap w') (hg : wr.grownBy w' (some p)) : DrTm m p a len cap g w w' rs t cs := ⟨h.1.gbr hp hc hg, h.2.gbr hg (by omega)⟩
theorem DrTm.below (h : DrTm m p a len cap g w wr rs t cs) (hp : p < w.heap.size) (hb : Below wr.heap.size wr w') : DrTm m p a len cap g w w' rs t cs := ⟨h.1.below hp hb, h.2.below hb⟩
theorem DrTm.alloc (h : DrTm m p a len cap g w wr rs t cs) (hp : p < w.heap.size) (o : Obj) : DrTm m p a len cap g w (wr.alloc o) rs t cs := ⟨h.1.alloc hp o, h.2.alloc o⟩
theorem DrTm.drew (h : DrTm m p a len cap g w wr rs t cs) (hp : p < w.heap.size) : DrTm m p a len cap g w wr.drew rs t cs := ⟨h.1.drew hp, h.2.drew⟩
theorem DrTm.more {m' : Nat} (h : DrTm m p a len cap g w wr rs t cs) (hm : m ≤ m') : DrTm m' p a len cap g w wr rs t cs := ⟨h.1, h.2.more hm⟩
end
/-- The call returns terms, whatever, of its own. -/
def DrawnTm (m p : Nat) (a : Option Addr) (len cap : Nat) (w : World) (e : Ending) (w' : World) : Prop :=
  ∃ v t, e = .returned v ∧ HoldTm m w.heap.size w'.heap.size w' v t ∧ IsCur p a len cap w' ∧ w.grownBy w' (some p)
/-- A label of the terms in the making is stored anew. -/
theorem DrTm.put {m p : Nat} {a : Option Addr} {len cap g : Nat} {w wr : World} {rs : List Value} {t : Tm} {A0 : Option Addr} {n0 c0 : Nat} {A1 : Option Addr} {n1 c1 : Nat} {A2 : Option Addr} {n2 c2 : Nat} {A3 : Option Addr} {n3 c3 : Nat} {A : Option Addr} {n c : Nat} {l : Lab} {b0 b1 b2 b3 : Int}
    (h : DrTm m p a len cap g w wr rs t [.int .i64 b0, .slice A0 n0 c0, .int .i64 b1, .slice A1 n1 c1, .int .i64 b2, .slice A2 n2 c2, .int .i64 b3, .slice A3 n3 c3]) (hp : p < w.heap.size) (ho : OffLab (w.heap.size + 1) g wr (.agg #[.int .i64 l.base, .slice A n c]) l) (hm : l.parts.length ≤ m) :
    DrTm m p a len cap g w ((wr.setCell ⟨g, 0, none⟩ (.int .i64 l.base)).setCell ⟨g, 1, none⟩ (.slice A n c)) rs { t with taint := l } [.int .i64 l.base, .slice A n c, .int .i64 b1, .slice A1 n1 c1, .int .i64 b2, .slice A2 n2 c2, .int .i64 b3, .slice A3 n3 c3] ∧
    DrTm m p a len cap g w ((wr.setCell ⟨g, 2, none⟩ (.int .i64 l.base)).setCell ⟨g, 3, none⟩ (.slice A n c)) rs { t with clear := l } [.int .i64 b0, .slice A0 n0 c0, .int .i64 l.base, .slice A n c, .int .i64 b2, .slice A2 n2 c2, .int .i64 b3, .slice A3 n3 c3] ∧
    DrTm m p a len cap g w ((wr.setCell ⟨g, 4, none⟩ (.int .i64 l.base)).setCell ⟨g, 5, none⟩ (.slice A n c)) rs { t with raise := l } [.int .i64 b0, .slice A0 n0 c0, .int .i64 b1, .slice A1 n1 c1, .int .i64 l.base, .slice A n c, .int .i64 b3, .slice A3 n3 c3] ∧
    DrTm m p a len cap g w ((wr.setCell ⟨g, 6, none⟩ (.int .i64 l.base)).setCell ⟨g, 7, none⟩ (.slice A n c)) rs { t with verify := l } [.int .i64 b0, .slice A0 n0 c0, .int .i64 b1, .slice A1 n1 c1, .int .i64 b2, .slice A2 n2 c2, .int .i64 l.base, .slice A n c] := by
  obtain ⟨hd, B0, m0, d0, B1, m1, d1, B2, m2, d2, B3, m3, d3, hv, ⟨h0, k0⟩, ⟨h1, k1⟩, ⟨h2, k2⟩, h3, k3⟩ := h
  have e : ([.int .i64 b0, .slice A0 n0 c0, .int .i64 b1, .slice A1 n1 c1, .int .i64 b2, .slice A2 n2 c2, .int .i64 b3, .slice A3 n3 c3] : List Value) = [.int .i64 t.taint.base, .slice B0 m0 d0, .int .i64 t.clear.base, .slice B1 m1 d1, .int .i64 t.raise.base, .slice B2 m2 d2, .int .i64 t.verify.base, .slice B3 m3 d3] := congrArg (fun v => v.cells.toList) hv
  simp only [List.cons.injEq, Value.int.injEq, Value.slice.injEq, true_and, and_true] at e
  obtain ⟨rfl, ⟨rfl, rfl, rfl⟩, rfl, ⟨rfl, rfl, rfl⟩, rfl, ⟨rfl, rfl, rfl⟩, rfl, rfl, rfl, rfl⟩ := e
  have ps : ∀ {u : Value} {k : Lab} {i j : Nat} {x y : Value}, OffLab (w.heap.size + 1) g wr u k → OffLab (w.heap.size + 1) g ((wr.setCell ⟨g, i, none⟩ x).setCell ⟨g, j, none⟩ y) u k := fun o => o.past.past
  refine ⟨⟨(hd.set hp (by simp) _).set hp (by simp) _, ?_⟩, ⟨(hd.set hp (by simp) _).set hp (by simp) _, ?_⟩, ⟨(hd.set hp (by simp) _).set hp (by simp) _, ?_⟩, ⟨(hd.set hp (by simp) _).set hp (by simp) _, ?_⟩⟩
  · exact ⟨_, _, _, _, _, _, _, _, _, _, _, _, rfl, ⟨ps ho, hm⟩, ⟨ps h1, k1⟩, ⟨ps h2, k2⟩, ps h3, k3⟩
  · exact ⟨_, _, _, _, _, _, _, _, _, _, _, _, rfl, ⟨ps h0, k0⟩, ⟨ps ho, hm⟩, ⟨ps h2, k2⟩, ps h3, k3⟩
  · exact ⟨_, _, _, _, _, _, _, _, _, _, _, _, rfl, ⟨ps h0, k0⟩, ⟨ps h1, k1⟩, ⟨ps ho, hm⟩, ps h3, k3⟩
  · exact ⟨_, _, _, _, _, _, _, _, _, _, _, _, rfl, ⟨ps h0, k0⟩, ⟨ps h1, k1⟩, ⟨ps h2, k2⟩, ps ho, hm⟩
/-- The terms are stored as the result. -/
theorem drawn_end {m p : Nat} {a : Option Addr} {len cap g : Nat} {w wr : World} {rs : List Value} {t : Tm} {A0 : Option Addr} {n0 c0 : Nat} {A1 : Option Addr} {n1 c1 : Nat} {A2 : Option Addr} {n2 c2 : Nat} {A3 : Option Addr} {n3 c3 : Nat}
    (h : DrTm m p a len cap g w wr rs t [.int .i64 t.taint.base, .slice A0 n0 c0, .int .i64 t.clear.base, .slice A1 n1 c1, .int .i64 t.raise.base, .slice A2 n2 c2, .int .i64 t.verify.base, .slice A3 n3 c3]) (hp : p < w.heap.size) :
    DrawnTm m p a len cap w (.returned (.agg #[.int .i64 t.taint.base, .slice A0 n0 c0, .int .i64 t.clear.base, .slice A1 n1 c1, .int .i64 t.raise.base, .slice A2 n2 c2, .int .i64 t.verify.base, .slice A3 n3 c3])) (((((((((wr).setCell ⟨w.heap.size, 0, none⟩ (.int .i64 t.taint.base)).setCell ⟨w.heap.size, 1, none⟩ (.slice A0 n0 c0)).setCell ⟨w.heap.size, 2, none⟩ (.int .i64 t.clear.base)).setCell ⟨w.heap.size, 3, none⟩ (.slice A1 n1 c1)).setCell ⟨w.heap.size, 4, none⟩ (.int .i64 t.raise.base)).setCell ⟨w.heap.size, 5, none⟩ (.slice A2 n2 c2)).setCell ⟨w.heap.size, 6, none⟩ (.int .i64 t.verify.base)).setCell ⟨w.heap.size, 7, none⟩ (.slice A3 n3 c3)) := by
  obtain ⟨d0, o⟩ := h
  have d := And.intro d0.cur d0.grown
  have d := DrT.setr d hp (i := 0) (.int .i64 t.taint.base)
  have o := o.out (b := w.heap.size) (i := 0) (x := .int .i64 t.taint.base) (by omega)
  have d := DrT.setr d hp (i := 1) (.slice A0 n0 c0)
  have o := o.out (b := w.heap.size) (i := 1) (x := .slice A0 n0 c0) (by omega)
  have d := DrT.setr d hp (i := 2) (.int .i64 t.clear.base)
  have o := o.out (b := w.heap.size) (i := 2) (x := .int .i64 t.clear.base) (by omega)
  have d := DrT.setr d hp (i := 3) (.slice A1 n1 c1)
  have o := o.out (b := w.heap.size) (i := 3) (x := .slice A1 n1 c1) (by omega)
  have d := DrT.setr d hp (i := 4) (.int .i64 t.raise.base)
  have o := o.out (b := w.heap.size) (i := 4) (x := .int .i64 t.raise.base) (by omega)
  have d := DrT.setr d hp (i := 5) (.slice A2 n2 c2)
  have o := o.out (b := w.heap.size) (i := 5) (x := .slice A2 n2 c2) (by omega)
  have d := DrT.setr d hp (i := 6) (.int .i64 t.verify.base)
  have o := o.out (b := w.heap.size) (i := 6) (x := .int .i64 t.verify.base) (by omega)
  have d := DrT.setr d hp (i := 7) (.slice A3 n3 c3)
  have o := o.out (b := w.heap.size) (i := 7) (x := .slice A3 n3 c3) (by omega)
  exact ⟨_, t, rfl, o.again (by omega) (.inr (Nat.le_refl _)), d.1, d.2⟩
end Go.Proofs.YtnpeojlhjbdjiaaGreatDoor
