/-
  Terms in memory, and the laws' helpers on them.
-/
import Derived.Test.YtnpeojlhjbdjiaaGreatDoorHas
import Derived.Test.YtnpeojlhjbdjiaaGreatDoorOpen
namespace Go.Proofs.YtnpeojlhjbdjiaaGreatDoor
set_option maxRecDepth 100000
open Go.RowKit
set_option linter.unusedVariables false

/-- Terms. -/
structure Tm where
  taint : Lab
  clear : Lab
  raise : Lab
  verify : Lab
def tmEq (t u : Tm) : Bool := labEq t.taint u.taint && labEq t.clear u.clear && labEq t.raise u.raise && labEq t.verify u.verify
theorem tmEq_rfl (t : Tm) : tmEq t t = true := by simp [tmEq, labEq_rfl]
def RdTm (w : World) (v : Value) (t : Tm) : Prop := ∃ (A0 : Option Addr) (n0 c0 : Nat) (A1 : Option Addr) (n1 c1 : Nat) (A2 : Option Addr) (n2 c2 : Nat) (A3 : Option Addr) (n3 c3 : Nat), v = .agg #[.int .i64 t.taint.base, .slice A0 n0 c0, .int .i64 t.clear.base, .slice A1 n1 c1, .int .i64 t.raise.base, .slice A2 n2 c2, .int .i64 t.verify.base, .slice A3 n3 c3] ∧ RdLab w (.agg #[.int .i64 t.taint.base, .slice A0 n0 c0]) t.taint ∧ RdLab w (.agg #[.int .i64 t.clear.base, .slice A1 n1 c1]) t.clear ∧ RdLab w (.agg #[.int .i64 t.raise.base, .slice A2 n2 c2]) t.raise ∧ RdLab w (.agg #[.int .i64 t.verify.base, .slice A3 n3 c3]) t.verify
def OwnTm (base : Nat) (w : World) (v : Value) (t : Tm) : Prop := ∃ (A0 : Option Addr) (n0 c0 : Nat) (A1 : Option Addr) (n1 c1 : Nat) (A2 : Option Addr) (n2 c2 : Nat) (A3 : Option Addr) (n3 c3 : Nat), v = .agg #[.int .i64 t.taint.base, .slice A0 n0 c0, .int .i64 t.clear.base, .slice A1 n1 c1, .int .i64 t.raise.base, .slice A2 n2 c2, .int .i64 t.verify.base, .slice A3 n3 c3] ∧ OwnLab base w (.agg #[.int .i64 t.taint.base, .slice A0 n0 c0]) t.taint ∧ OwnLab base w (.agg #[.int .i64 t.clear.base, .slice A1 n1 c1]) t.clear ∧ OwnLab base w (.agg #[.int .i64 t.raise.base, .slice A2 n2 c2]) t.raise ∧ OwnLab base w (.agg #[.int .i64 t.verify.base, .slice A3 n3 c3]) t.verify ∧ Apart [.int .i64 t.taint.base, .slice A0 n0 c0, .int .i64 t.clear.base, .slice A1 n1 c1, .int .i64 t.raise.base, .slice A2 n2 c2, .int .i64 t.verify.base, .slice A3 n3 c3]
theorem RdTm.below {w w' : World} {v : Value} {t : Tm} (h : RdTm w v t) (hb : Below w.heap.size w w') : RdTm w' v t := by
  obtain ⟨A0, n0, c0, A1, n1, c1, A2, n2, c2, A3, n3, c3, rfl, h0, h1, h2, h3⟩ := h
  exact ⟨A0, n0, c0, A1, n1, c1, A2, n2, c2, A3, n3, c3, rfl, h0.below hb, h1.below hb, h2.below hb, h3.below hb⟩
theorem RdTm.alloc {w : World} {v : Value} {t : Tm} (h : RdTm w v t) (o : Obj) : RdTm (w.alloc o) v t := h.below ((Below.refl _ _).alloc (Nat.le_refl _) o)
theorem RdTm.drew {w : World} {v : Value} {t : Tm} (h : RdTm w v t) : RdTm w.drew v t := h.below (Below.refl _ _).drew
theorem OwnTm.below {base : Nat} {w w' : World} {v : Value} {t : Tm} (h : OwnTm base w v t) (hb : Below w.heap.size w w') : OwnTm base w' v t := by
  obtain ⟨A0, n0, c0, A1, n1, c1, A2, n2, c2, A3, n3, c3, rfl, h0, h1, h2, h3, hap⟩ := h
  exact ⟨A0, n0, c0, A1, n1, c1, A2, n2, c2, A3, n3, c3, rfl, h0.below hb, h1.below hb, h2.below hb, h3.below hb, hap⟩
theorem OwnTm.lower {base base' : Nat} {w : World} {v : Value} {t : Tm} (h : OwnTm base w v t) (hb : base' ≤ base) : OwnTm base' w v t := by
  obtain ⟨A0, n0, c0, A1, n1, c1, A2, n2, c2, A3, n3, c3, rfl, h0, h1, h2, h3, hap⟩ := h
  exact ⟨A0, n0, c0, A1, n1, c1, A2, n2, c2, A3, n3, c3, rfl, h0.lower hb, h1.lower hb, h2.lower hb, h3.lower hb, hap⟩
theorem OwnTm.past {base g i : Nat} {w : World} {v u : Value} {t : Tm} (h : OwnTm base w v t) (hg : g < base) : OwnTm base (w.setCell ⟨g, i, none⟩ u) v t := by
  obtain ⟨A0, n0, c0, A1, n1, c1, A2, n2, c2, A3, n3, c3, rfl, h0, h1, h2, h3, hap⟩ := h
  exact ⟨A0, n0, c0, A1, n1, c1, A2, n2, c2, A3, n3, c3, rfl, h0.past hg, h1.past hg, h2.past hg, h3.past hg, hap⟩
theorem OwnTm.rd {base : Nat} {w : World} {v : Value} {t : Tm} (h : OwnTm base w v t) : RdTm w v t := by
  obtain ⟨A0, n0, c0, A1, n1, c1, A2, n2, c2, A3, n3, c3, rfl, h0, h1, h2, h3, hap⟩ := h
  exact ⟨A0, n0, c0, A1, n1, c1, A2, n2, c2, A3, n3, c3, rfl, h0.rd, h1.rd, h2.rd, h3.rd⟩
theorem OwnTm.fp {base : Nat} {w : World} {v : Value} {t : Tm} (h : OwnTm base w v t) : ∀ k ∈ fpOf v.cells.toList, base ≤ k ∧ k < w.heap.size := by
  obtain ⟨A0, n0, c0, A1, n1, c1, A2, n2, c2, A3, n3, c3, rfl, h0, h1, h2, h3, -⟩ := h
  intro k hk
  simp only [Value.cells, own_int, Option.toList_none, List.nil_append, fpOf_cons, fpOf_nil, List.mem_append, List.append_nil, mem_fp] at hk
  rcases hk with hk | hk | hk | hk
  · exact h0.row k hk
  · exact h1.row k hk
  · exact h2.row k hk
  · exact h3.row k hk
theorem OwnTm.chg {base : Nat} {bs : List Nat} {w w' : World} {v : Value} {t : Tm} (h : OwnTm base w v t) (hc : Chg bs w w') (hn : ∀ k ∈ fpOf v.cells.toList, k ∉ bs) : OwnTm base w' v t := by
  obtain ⟨A0, n0, c0, A1, n1, c1, A2, n2, c2, A3, n3, c3, rfl, h0, h1, h2, h3, hap⟩ := h
  simp only [Value.cells, own_int, Option.toList_none, List.nil_append, fpOf_cons, fpOf_nil, List.mem_append, List.append_nil, mem_fp] at hn
  exact ⟨A0, n0, c0, A1, n1, c1, A2, n2, c2, A3, n3, c3, rfl, hc.lab h0 (fun k hk => hn k (by simp only [labRow] at hk; simp at hk ⊢; simp [hk])), hc.lab h1 (fun k hk => hn k (by simp only [labRow] at hk; simp at hk ⊢; simp [hk])), hc.lab h2 (fun k hk => hn k (by simp only [labRow] at hk; simp at hk ⊢; simp [hk])), hc.lab h3 (fun k hk => hn k (by simp only [labRow] at hk; simp at hk ⊢; simp [hk])), hap⟩
/-- The call returns such a struct, of its own. -/
def RetTm (t : Tm) (w : World) (e : Ending) (w' : World) : Prop := ∃ v, e = .returned v ∧ OwnTm w.heap.size w' v t ∧ Below w.heap.size w w'
def tmLen (t : Tm) : Nat := t.taint.parts.length + t.clear.parts.length + t.raise.parts.length + t.verify.parts.length
/-- One that came in: rows of any length. -/
def ArgTm (w : World) (v : Value) (t : Tm) : Prop := ∃ (A0 : Option Addr) (n0 c0 : Nat) (A1 : Option Addr) (n1 c1 : Nat) (A2 : Option Addr) (n2 c2 : Nat) (A3 : Option Addr) (n3 c3 : Nat), v = .agg #[.int .i64 t.taint.base, .slice A0 n0 c0, .int .i64 t.clear.base, .slice A1 n1 c1, .int .i64 t.raise.base, .slice A2 n2 c2, .int .i64 t.verify.base, .slice A3 n3 c3] ∧ ArgLab w (.agg #[.int .i64 t.taint.base, .slice A0 n0 c0]) t.taint ∧ ArgLab w (.agg #[.int .i64 t.clear.base, .slice A1 n1 c1]) t.clear ∧ ArgLab w (.agg #[.int .i64 t.raise.base, .slice A2 n2 c2]) t.raise ∧ ArgLab w (.agg #[.int .i64 t.verify.base, .slice A3 n3 c3]) t.verify
theorem ArgTm.rd {w : World} {v : Value} {t : Tm} (h : ArgTm w v t) (hl : tmLen t ≤ 1048576) : RdTm w v t := by
  obtain ⟨A0, n0, c0, A1, n1, c1, A2, n2, c2, A3, n3, c3, rfl, h0, h1, h2, h3⟩ := h
  unfold tmLen at hl
  exact ⟨A0, n0, c0, A1, n1, c1, A2, n2, c2, A3, n3, c3, rfl, h0.rd (by omega), h1.rd (by omega), h2.rd (by omega), h3.rd (by omega)⟩
def ShTm (v : Value) (t : Tm) : Prop := ∃ (A0 : Option Addr) (n0 c0 : Nat) (A1 : Option Addr) (n1 c1 : Nat) (A2 : Option Addr) (n2 c2 : Nat) (A3 : Option Addr) (n3 c3 : Nat), v = .agg #[.int .i64 t.taint.base, .slice A0 n0 c0, .int .i64 t.clear.base, .slice A1 n1 c1, .int .i64 t.raise.base, .slice A2 n2 c2, .int .i64 t.verify.base, .slice A3 n3 c3] ∧ ShLab (.agg #[.int .i64 t.taint.base, .slice A0 n0 c0]) t.taint ∧ ShLab (.agg #[.int .i64 t.clear.base, .slice A1 n1 c1]) t.clear ∧ ShLab (.agg #[.int .i64 t.raise.base, .slice A2 n2 c2]) t.raise ∧ ShLab (.agg #[.int .i64 t.verify.base, .slice A3 n3 c3]) t.verify
theorem ArgTm.sh {w : World} {v : Value} {t : Tm} (h : ArgTm w v t) : ShTm v t := by
  obtain ⟨A0, n0, c0, A1, n1, c1, A2, n2, c2, A3, n3, c3, rfl, h0, h1, h2, h3⟩ := h
  exact ⟨A0, n0, c0, A1, n1, c1, A2, n2, c2, A3, n3, c3, rfl, h0.sh, h1.sh, h2.sh, h3.sh⟩
end Go.Proofs.YtnpeojlhjbdjiaaGreatDoor
