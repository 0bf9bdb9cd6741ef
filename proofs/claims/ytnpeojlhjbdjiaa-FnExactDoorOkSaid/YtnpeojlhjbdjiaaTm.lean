/-
  Terms in memory, and the laws' helpers on them.
-/
import Derived.Test.YtnpeojlhjbdjiaaHas
import Derived.Test.YtnpeojlhjbdjiaaOpen
namespace Go.Proofs.Ytnpeojlhjbdjiaa
set_option maxRecDepth 100000
open Go.RowKit
set_option linter.unusedVariables false

/-- Terms. -/
structure Tm where
  taint : Lab
  clear : Lab
  raise : Lab
  verify : Lab
def tmEq (t u : Tm) : Bool := labEq t.taint u.taint && labEq t.clear u.clear && labEq t.raise u.raise && labEq t.verify u.verify
theorem tmEq_rfl (t : Tm) : tmEq t t = true := by simp [tmEq, labEq_rfl]
def RdTm (w : World) (v : Value) (t : Tm) : Prop := ∃ (A0 : Option Addr) (n0 c0 : Nat) (A1 : Option Addr) (n1 c1 : Nat) (A2 : Option Addr) (n2 c2 : Nat) (A3 : Option Addr) (n3 c3 : Nat), v = .agg #[.int .i64 t.taint.base, .slice A0 n0 c0, .int .i64 t.clear.base, .slice A1 n1 c1, .int .i64 t.raise.base, .slice A2 n2 c2, .int .i64 t.verify.base, .slice A3 n3 c3] ∧ RdLab w (.agg #[.int .i64 t.taint.base, .slice A0 n0 c0]) t.taint ∧ RdLab w (.agg #[.int .i64 t.clear.base, .slice A1 n1 c1]) t.clear ∧ RdLab w (.agg #[.int .i64 t.raise.base, .slice A2 n2 c2]) t.raise ∧ RdLab w (.agg #[.int .i64 t.verify.base, .slice A3 n3 c3]) t.verify
def OwnTm (base : Nat) (w : World) (v : Value) (t : Tm) : Prop := ∃ (A0 : Option Addr) (n0 c0 : Nat) (A1 : Option Addr) (n1 c1 : Nat) (A2 : Option Addr) (n2 c2 : Nat) (A3 : Option Addr) (n3 c3 : Nat), v = .agg #[.int .i64 t.taint.base, .slice A0 n0 c0, .int .i64 t.clear.base, .slice A1 n1 c1, .int .i64 t.raise.base, .slice A2 n2 c2, .int .i64 t.verify.base, .slice A3 n3 c3] ∧ OwnLab base w (.agg #[.int .i64 t.taint.base, .slice A0 n0 c0]) t.taint ∧ OwnLab base w (.agg #[.int .i64 t.clear.base, .slice A1 n1 c1]) t.clear ∧ OwnLab base w (.agg #[.int .i64 t.raise.base, .slice A2 n2 c2]) t.raise ∧ OwnLab base w (.agg #[.int .i64 t.verify.base, .slice A3 n3 c3]) t.verify ∧ Apart [.int .i64 t.taint.base, .slice A0 n0 c0, .int .i64 t.clear.base, .slice A1 n1 c1, .int .i64 t.raise.base, .slice A2 n2 c2, .int .i64 t.verify.base, .slice A3 n3 c3]
theorem RdTm.below {w w' : World} {v : Value} {t : Tm} (h : RdTm w v t) (hb : Below w.heap.size w w') : RdTm w' v t := by
  obtain ⟨A0, n0, c0, A1, n1, c1, A2, n2, c2, A3, n3, c3, rfl, h0, h1, h2, h3⟩ := h
  exact ⟨A0, n0, c0, A1, n1, c1, A2, n2, c2, A3, n3, c3, rfl, h0.below hb, h1.below hb, h2.below hb, h3.below hb⟩
theorem RdTm.alloc {w : World} {v : Value} {t : Tm} (h : RdTm w v t) (o : Obj) : RdTm (w.alloc o) v t := h.below ((Below.refl _ _).alloc (Nat.le_refl _) o)
theorem RdTm.drew {w : World} {v : Value} {t : Tm} (h : RdTm w v t) : RdTm w.drew v t := h.below (Below.refl _ _).drew
theorem OwnTm.below {base : Nat} {w w' : World} {v : Value} {t : Tm} (h : OwnTm base w v t) (hb : Below w.heap.size w w') : OwnTm base w' v t := by
  obtain ⟨A0, n0, c0, A1, n1, c1, A2, n2, c2, A3, n3, c3, rfl, h0, h1, h2, h3, hap⟩ := h
  exact ⟨A0, n0, c0, A1, n1, c1, A2, n2, c2, A3, n3, c3, rfl, h0.below hb, h1.below hb, h2.below hb, h3.below hb, hap⟩
theorem OwnTm.lower {base base' : Nat} {w : World} {v : Value} {t : Tm} (h : OwnTm base w v t) (hb : base' ≤ base) : OwnTm base' w v t := by
  obtain ⟨A0, n0, c0, A1, n1, c1, A2, n2, c2, A3, n3, c3, rfl, h0, h1, h2, h3, hap⟩ := h
  exact ⟨A0, n0, c0, A1, n1, c1, A2, n2, c2, A3, n3, c3, rfl, h0.lower hb, h1.lower hb, h2.lower hb, h3.lower hb, hap⟩
theorem OwnTm.past {base g i : Nat} {w : World} {v u : Value} {t : Tm} (h : OwnTm base w v t) (hg : g < base) : OwnTm base (w.setCell ⟨g, i, none⟩ u) v t := by
  obtain ⟨A0, n0, c0, A1, n1, c1, A2, n2, c2, A3, n3, c3, rfl, h0, h1, h2, h3, hap⟩ := h
  exact ⟨A0, n0, c0, A1, n1, c1, A2, n2, c2, A3, n3, c3, rfl, h0.past hg, h1.past hg, h2.past hg, h3.past hg, hap⟩
theorem OwnTm.rd {base : Nat} {w : World} {v : Value} {t : Tm} (h : OwnTm base w v t) : RdTm w v t := by
  obtain ⟨A0, n0, c0, A1, n1, c1, A2, n2, c2, A3, n3, c3, rfl, h0, h1, h2, h3, hap⟩ := h
  exact ⟨A0, n0, c0, A1, n1, c1, A2, n2, c2, A3, n3, c3, rfl, h0.rd, h1.rd, h2.rd, h3.rd⟩
theorem OwnTm.fp {base : Nat} {w : World} {v : Value} {t : Tm} (h : OwnTm base w v t) : ∀ k ∈ fpOf v.cells.toList, base ≤ k ∧ k < w.heap.size := by
  obtain ⟨A0, n0, c0, A1, n1, c1, A2, n2, c2, A3, n3, c3, rfl, h0, h1, h2, h3, -⟩ := h
  intro k hk
  simp only [Value.cells, own_int, Option.toList_none, List.nil_append, fpOf_cons, fpOf_nil, List.mem_append, List.append_nil, mem_fp] at hk
  rcases hk with hk | hk | hk | hk
  · exact h0.row k hk
  · exact h1.row k hk
  · exact h2.row k hk
  · exact h3.row k hk
theorem OwnTm.chg {base : Nat} {bs : List Nat} {w w' : World} {v : Value} {t : Tm} (h : OwnTm base w v t) (hc : Chg bs w w') (hn : ∀ k ∈ fpOf v.cells.toList, k ∉ bs) : OwnTm base w' v t := by
  obtain ⟨A0, n0, c0, A1, n1, c1, A2, n2, c2, A3, n3, c3, rfl, h0, h1, h2, h3, hap⟩ := h
  simp only [Value.cells, own_int, Option.toList_none, List.nil_append, fpOf_cons, fpOf_nil, List.mem_append, List.append_nil, mem_fp] at hn
  exact ⟨A0, n0, c0, A1, n1, c1, A2, n2, c2, A3, n3, c3, rfl, hc.lab h0 (fun k hk => hn k (by simp only [labRow] at hk; simp at hk ⊢; simp [hk])), hc.lab h1 (fun k hk => hn k (by simp only [labRow] at hk; simp at hk ⊢; simp [hk])), hc.lab h2 (fun k hk => hn k (by simp only [labRow] at hk; simp at hk ⊢; simp [hk])), hc.lab h3 (fun k hk => hn k (by simp only [labRow] at hk; simp at hk ⊢; simp [hk])), hap⟩
/-- The call returns such a struct, of its own. -/
def RetTm (t : Tm) (w : World) (e : Ending) (w' : World) : Prop := ∃ v, e = .returned v ∧ OwnTm w.heap.size w' v t ∧ Below w.heap.size w w'
def tmLen (t : Tm) : Nat := t.taint.parts.length + t.clear.parts.length + t.raise.parts.length + t.verify.parts.length
/-- One that came in: rows of any length. -/
def ArgTm (w : World) (v : Value) (t : Tm) : Prop := ∃ (A0 : Option Addr) (n0 c0 : Nat) (A1 : Option Addr) (n1 c1 : Nat) (A2 : Option Addr) (n2 c2 : Nat) (A3 : Option Addr) (n3 c3 : Nat), v = .agg #[.int .i64 t.taint.base, .slice A0 n0 c0, .int .i64 t.clear.base, .slice A1 n1 c1, .int .i64 t.raise.base, .slice A2 n2 c2, .int .i64 t.verify.base, .slice A3 n3 c3] ∧ ArgLab w (.agg #[.int .i64 t.taint.base, .slice A0 n0 c0]) t.taint ∧ ArgLab w (.agg #[.int .i64 t.clear.base, .slice A1 n1 c1]) t.clear ∧ ArgLab w (.agg #[.int .i64 t.raise.base, .slice A2 n2 c2]) t.raise ∧ ArgLab w (.agg #[.int .i64 t.verify.base, .slice A3 n3 c3]) t.verify
theorem ArgTm.rd {w : World} {v : Value} {t : Tm} (h : ArgTm w v t) (hl : tmLen t ≤ 1048576) : RdTm w v t := by
  obtain ⟨A0, n0, c0, A1, n1, c1, A2, n2, c2, A3, n3, c3, rfl, h0, h1, h2, h3⟩ := h
  unfold tmLen at hl
  exact ⟨A0, n0, c0, A1, n1, c1, A2, n2, c2, A3, n3, c3, rfl, h0.rd (by omega), h1.rd (by omega), h2.rd (by omega), h3.rd (by omega)⟩
def ShTm (v : Value) (t : Tm) : Prop := ∃ (A0 : Option Addr) (n0 c0 : Nat) (A1 : Option Addr) (n1 c1 : Nat) (A2 : Option Addr) (n2 c2 : Nat) (A3 : Option Addr) (n3 c3 : Nat), v = .agg #[.int .i64 t.taint.base, .slice A0 n0 c0, .int .i64 t.clear.base, .slice A1 n1 c1, .int .i64 t.raise.base, .slice A2 n2 c2, .int .i64 t.verify.base, .slice A3 n3 c3] ∧ ShLab (.agg #[.int .i64 t.taint.base, .slice A0 n0 c0]) t.taint ∧ ShLab (.agg #[.int .i64 t.clear.base, .slice A1 n1 c1]) t.clear ∧ ShLab (.agg #[.int .i64 t.raise.base, .slice A2 n2 c2]) t.raise ∧ ShLab (.agg #[.int .i64 t.verify.base, .slice A3 n3 c3]) t.verify
theorem ArgTm.sh {w : World} {v : Value} {t : Tm} (h : ArgTm w v t) : ShTm v t := by
  obtain ⟨A0, n0, c0, A1, n1, c1, A2, n2, c2, A3, n3, c3, rfl, h0, h1, h2, h3⟩ := h
  exact ⟨A0, n0, c0, A1, n1, c1, A2, n2, c2, A3, n3, c3, rfl, h0.sh, h1.sh, h2.sh, h3.sh⟩
set_option maxHeartbeats 4000000 in
theorem to_tm (v : Value) (t : Tm) (w : World) (h : RdTm w v t) : Calls Try.prog 30 #[v] w (RetTm t w) := by
  obtain ⟨A0, n0, c0, A1, n1, c1, A2, n2, c2, A3, n3, c3, rfl, h0, h1, h2, h3⟩ := h
  have H0 := Lib.hid h0
  clear h0
  have H1 := Lib.hid h1
  clear h1
  have H2 := Lib.hid h2
  clear h2
  have H3 := Lib.hid h3
  clear h3
  go_enter Try.func30, Try.ntmps30
  go_wp2_with fail
  generalize hW : ((w.alloc (.cells #[.int .i64 t.taint.base, .slice A0 n0 c0, .int .i64 t.clear.base, .slice A1 n1 c1, .int .i64 t.raise.base, .slice A2 n2 c2, .int .i64 t.verify.base, .slice A3 n3 c3] 26)).alloc (.cells #[.int .i64 0, .slice none 0 0, .int .i64 0, .slice none 0 0, .int .i64 0, .slice none 0 0, .int .i64 0, .slice none 0 0] 35)).alloc (.cells #[.int .i64 0, .slice none 0 0, .int .i64 0, .slice none 0 0, .int .i64 0, .slice none 0 0, .int .i64 0, .slice none 0 0] 35) = x0
  obtain ⟨pb, rb, ob, hsz, bel⟩ := laid3 (ps := [.int .i64 t.taint.base, .slice A0 n0 c0, .int .i64 t.clear.base, .slice A1 n1 c1, .int .i64 t.raise.base, .slice A2 n2 c2, .int .i64 t.verify.base, .slice A3 n3 c3]) (rs := [.int .i64 0, .slice none 0 0, .int .i64 0, .slice none 0 0, .int .i64 0, .slice none 0 0, .int .i64 0, .slice none 0 0]) (os := [.int .i64 0, .slice none 0 0, .int .i64 0, .slice none 0 0, .int .i64 0, .slice none 0 0, .int .i64 0, .slice none 0 0]) hW
  have PB := Lib.hid pb
  have RB := Lib.hid rb
  have OB := Lib.hid ob
  have hlo : w.heap.size + 1 + 1 < x0.heap.size := by omega
  clear hW pb rb ob hsz
  refine (to_lab _ t.taint _ (H0.out.below bel)).mono ?_
  rintro e y1 ⟨v1, rfl, own, hb⟩
  obtain ⟨B0, m0, d0, rfl, -, -, -⟩ := (id own)
  have V0 : Hid (∀ k, (Value.slice B0 m0 d0).ownBlock = some k → x0.heap.size ≤ k ∧ k < y1.heap.size) := Lib.hid (fun k hk => own.row k hk)
  have W1 : Hid (OwnLab (w.heap.size + 1 + 1 + 1) y1 (.agg #[.int .i64 t.taint.base, .slice B0 m0 d0]) t.taint) := Lib.hid (own.lower (by omega))
  have PB' := Lib.hid (PB.out.below hb)
  have RB' := Lib.hid (RB.out.below hb)
  have OB' := Lib.hid (OB.out.below hb)
  have bel' := below_more bel hb
  have hlo' : w.heap.size + 1 + 1 < y1.heap.size := by have := hb.size; omega
  have hxy1 : x0.heap.size ≤ y1.heap.size := hb.size
  clear PB RB OB bel hlo hb own
  have PB := PB'
  have RB := RB'
  have OB := OB'
  have bel := bel'
  have hlo := hlo'
  clear PB' RB' OB' bel' hlo'
  have oc0 := OB.out.cell 0 rfl
  have of0 := OB.out.free 0
  have oc1 := OB.out.cell 1 rfl
  have of1 := OB.out.free 1
  have pc2 := PB.out.cell 2 rfl
  have pc3 := PB.out.cell 3 rfl
  go_wp2_with fail
  generalize hW : ((y1).setCell ⟨w.heap.size + 1 + 1, 0, none⟩ (.int .i64 t.taint.base)).setCell ⟨w.heap.size + 1 + 1, 1, none⟩ (.slice B0 m0 d0) = x1
  have PB' : Hid (Box x1 (w.heap.size) [.int .i64 t.taint.base, .slice A0 n0 c0, .int .i64 t.clear.base, .slice A1 n1 c1, .int .i64 t.raise.base, .slice A2 n2 c2, .int .i64 t.verify.base, .slice A3 n3 c3]) := Lib.hid (by rw [← hW]; exact ((PB.out.far (by omega)).far (by omega)))
  have RB' : Hid (Box x1 (w.heap.size + 1) [.int .i64 0, .slice none 0 0, .int .i64 0, .slice none 0 0, .int .i64 0, .slice none 0 0, .int .i64 0, .slice none 0 0]) := Lib.hid (by rw [← hW]; exact ((RB.out.far (by omega)).far (by omega)))
  have OB' : Hid (Box x1 (w.heap.size + 1 + 1) [.int .i64 t.taint.base, .slice B0 m0 d0, .int .i64 0, .slice none 0 0, .int .i64 0, .slice none 0 0, .int .i64 0, .slice none 0 0]) := Lib.hid (by rw [← hW]; exact ((OB.out.set (by simp)).set (by simp)))
  have W1' := Lib.hid (show _ from (by rw [← hW]; exact ((W1.out.past (by omega)).past (by omega)) : OwnLab (w.heap.size + 1 + 1 + 1) x1 (.agg #[.int .i64 t.taint.base, .slice B0 m0 d0]) t.taint))
  clear W1
  have W1 := W1'
  clear W1'
  have bel' : Below w.heap.size w x1 := by rw [← hW]; exact ((bel.setCell (by simp only []; omega) _).setCell (by simp only []; omega) _)
  have hlo' : w.heap.size + 1 + 1 < x1.heap.size := by rw [← hW]; simpa using hlo
  have hsx : x1.heap.size = y1.heap.size := by rw [← hW]; simp
  clear hW PB RB OB bel hlo oc0 of0 oc1 of1 pc2 pc3
  have PB := PB'
  have RB := RB'
  have OB := OB'
  have bel := bel'
  have hlo := hlo'
  clear PB' RB' OB' bel' hlo'
  refine (to_lab _ t.clear _ (H1.out.below bel)).mono ?_
  rintro e y2 ⟨v2, rfl, own, hb⟩
  obtain ⟨B1, m1, d1, rfl, -, -, -⟩ := (id own)
  have V1 : Hid (∀ k, (Value.slice B1 m1 d1).ownBlock = some k → x1.heap.size ≤ k ∧ k < y2.heap.size) := Lib.hid (fun k hk => own.row k hk)
  have W1' : Hid (OwnLab (w.heap.size + 1 + 1 + 1) y2 (.agg #[.int .i64 t.taint.base, .slice B0 m0 d0]) t.taint) := Lib.hid (W1.out.below hb)
  clear W1
  have W1 := W1'
  clear W1'
  have W2 : Hid (OwnLab (w.heap.size + 1 + 1 + 1) y2 (.agg #[.int .i64 t.clear.base, .slice B1 m1 d1]) t.clear) := Lib.hid (own.lower (by omega))
  have PB' := Lib.hid (PB.out.below hb)
  have RB' := Lib.hid (RB.out.below hb)
  have OB' := Lib.hid (OB.out.below hb)
  have bel' := below_more bel hb
  have hlo' : w.heap.size + 1 + 1 < y2.heap.size := by have := hb.size; omega
  have hxy2 : x1.heap.size ≤ y2.heap.size := hb.size
  clear PB RB OB bel hlo hb own
  have PB := PB'
  have RB := RB'
  have OB := OB'
  have bel := bel'
  have hlo := hlo'
  clear PB' RB' OB' bel' hlo'
  have hs2 := hsx
  clear hsx
  have oc2 := OB.out.cell 2 rfl
  have of2 := OB.out.free 2
  have oc3 := OB.out.cell 3 rfl
  have of3 := OB.out.free 3
  have pc4 := PB.out.cell 4 rfl
  have pc5 := PB.out.cell 5 rfl
  go_wp2_with fail
  generalize hW : ((y2).setCell ⟨w.heap.size + 1 + 1, 2, none⟩ (.int .i64 t.clear.base)).setCell ⟨w.heap.size + 1 + 1, 3, none⟩ (.slice B1 m1 d1) = x2
  have PB' : Hid (Box x2 (w.heap.size) [.int .i64 t.taint.base, .slice A0 n0 c0, .int .i64 t.clear.base, .slice A1 n1 c1, .int .i64 t.raise.base, .slice A2 n2 c2, .int .i64 t.verify.base, .slice A3 n3 c3]) := Lib.hid (by rw [← hW]; exact ((PB.out.far (by omega)).far (by omega)))
  have RB' : Hid (Box x2 (w.heap.size + 1) [.int .i64 0, .slice none 0 0, .int .i64 0, .slice none 0 0, .int .i64 0, .slice none 0 0, .int .i64 0, .slice none 0 0]) := Lib.hid (by rw [← hW]; exact ((RB.out.far (by omega)).far (by omega)))
  have OB' : Hid (Box x2 (w.heap.size + 1 + 1) [.int .i64 t.taint.base, .slice B0 m0 d0, .int .i64 t.clear.base, .slice B1 m1 d1, .int .i64 0, .slice none 0 0, .int .i64 0, .slice none 0 0]) := Lib.hid (by rw [← hW]; exact ((OB.out.set (by simp)).set (by simp)))
  have W1' := Lib.hid (show _ from (by rw [← hW]; exact ((W1.out.past (by omega)).past (by omega)) : OwnLab (w.heap.size + 1 + 1 + 1) x2 (.agg #[.int .i64 t.taint.base, .slice B0 m0 d0]) t.taint))
  clear W1
  have W1 := W1'
  clear W1'
  have W2' := Lib.hid (show _ from (by rw [← hW]; exact ((W2.out.past (by omega)).past (by omega)) : OwnLab (w.heap.size + 1 + 1 + 1) x2 (.agg #[.int .i64 t.clear.base, .slice B1 m1 d1]) t.clear))
  clear W2
  have W2 := W2'
  clear W2'
  have bel' : Below w.heap.size w x2 := by rw [← hW]; exact ((bel.setCell (by simp only []; omega) _).setCell (by simp only []; omega) _)
  have hlo' : w.heap.size + 1 + 1 < x2.heap.size := by rw [← hW]; simpa using hlo
  have hsx : x2.heap.size = y2.heap.size := by rw [← hW]; simp
  clear hW PB RB OB bel hlo oc2 of2 oc3 of3 pc4 pc5
  have PB := PB'
  have RB := RB'
  have OB := OB'
  have bel := bel'
  have hlo := hlo'
  clear PB' RB' OB' bel' hlo'
  refine (to_lab _ t.raise _ (H2.out.below bel)).mono ?_
  rintro e y3 ⟨v3, rfl, own, hb⟩
  obtain ⟨B2, m2, d2, rfl, -, -, -⟩ := (id own)
  have V2 : Hid (∀ k, (Value.slice B2 m2 d2).ownBlock = some k → x2.heap.size ≤ k ∧ k < y3.heap.size) := Lib.hid (fun k hk => own.row k hk)
  have W1' : Hid (OwnLab (w.heap.size + 1 + 1 + 1) y3 (.agg #[.int .i64 t.taint.base, .slice B0 m0 d0]) t.taint) := Lib.hid (W1.out.below hb)
  clear W1
  have W1 := W1'
  clear W1'
  have W2' : Hid (OwnLab (w.heap.size + 1 + 1 + 1) y3 (.agg #[.int .i64 t.clear.base, .slice B1 m1 d1]) t.clear) := Lib.hid (W2.out.below hb)
  clear W2
  have W2 := W2'
  clear W2'
  have W3 : Hid (OwnLab (w.heap.size + 1 + 1 + 1) y3 (.agg #[.int .i64 t.raise.base, .slice B2 m2 d2]) t.raise) := Lib.hid (own.lower (by omega))
  have PB' := Lib.hid (PB.out.below hb)
  have RB' := Lib.hid (RB.out.below hb)
  have OB' := Lib.hid (OB.out.below hb)
  have bel' := below_more bel hb
  have hlo' : w.heap.size + 1 + 1 < y3.heap.size := by have := hb.size; omega
  have hxy3 : x2.heap.size ≤ y3.heap.size := hb.size
  clear PB RB OB bel hlo hb own
  have PB := PB'
  have RB := RB'
  have OB := OB'
  have bel := bel'
  have hlo := hlo'
  clear PB' RB' OB' bel' hlo'
  have hs3 := hsx
  clear hsx
  have oc4 := OB.out.cell 4 rfl
  have of4 := OB.out.free 4
  have oc5 := OB.out.cell 5 rfl
  have of5 := OB.out.free 5
  have pc6 := PB.out.cell 6 rfl
  have pc7 := PB.out.cell 7 rfl
  go_wp2_with fail
  generalize hW : ((y3).setCell ⟨w.heap.size + 1 + 1, 4, none⟩ (.int .i64 t.raise.base)).setCell ⟨w.heap.size + 1 + 1, 5, none⟩ (.slice B2 m2 d2) = x3
  have PB' : Hid (Box x3 (w.heap.size) [.int .i64 t.taint.base, .slice A0 n0 c0, .int .i64 t.clear.base, .slice A1 n1 c1, .int .i64 t.raise.base, .slice A2 n2 c2, .int .i64 t.verify.base, .slice A3 n3 c3]) := Lib.hid (by rw [← hW]; exact ((PB.out.far (by omega)).far (by omega)))
  have RB' : Hid (Box x3 (w.heap.size + 1) [.int .i64 0, .slice none 0 0, .int .i64 0, .slice none 0 0, .int .i64 0, .slice none 0 0, .int .i64 0, .slice none 0 0]) := Lib.hid (by rw [← hW]; exact ((RB.out.far (by omega)).far (by omega)))
  have OB' : Hid (Box x3 (w.heap.size + 1 + 1) [.int .i64 t.taint.base, .slice B0 m0 d0, .int .i64 t.clear.base, .slice B1 m1 d1, .int .i64 t.raise.base, .slice B2 m2 d2, .int .i64 0, .slice none 0 0]) := Lib.hid (by rw [← hW]; exact ((OB.out.set (by simp)).set (by simp)))
  have W1' := Lib.hid (show _ from (by rw [← hW]; exact ((W1.out.past (by omega)).past (by omega)) : OwnLab (w.heap.size + 1 + 1 + 1) x3 (.agg #[.int .i64 t.taint.base, .slice B0 m0 d0]) t.taint))
  clear W1
  have W1 := W1'
  clear W1'
  have W2' := Lib.hid (show _ from (by rw [← hW]; exact ((W2.out.past (by omega)).past (by omega)) : OwnLab (w.heap.size + 1 + 1 + 1) x3 (.agg #[.int .i64 t.clear.base, .slice B1 m1 d1]) t.clear))
  clear W2
  have W2 := W2'
  clear W2'
  have W3' := Lib.hid (show _ from (by rw [← hW]; exact ((W3.out.past (by omega)).past (by omega)) : OwnLab (w.heap.size + 1 + 1 + 1) x3 (.agg #[.int .i64 t.raise.base, .slice B2 m2 d2]) t.raise))
  clear W3
  have W3 := W3'
  clear W3'
  have bel' : Below w.heap.size w x3 := by rw [← hW]; exact ((bel.setCell (by simp only []; omega) _).setCell (by simp only []; omega) _)
  have hlo' : w.heap.size + 1 + 1 < x3.heap.size := by rw [← hW]; simpa using hlo
  have hsx : x3.heap.size = y3.heap.size := by rw [← hW]; simp
  clear hW PB RB OB bel hlo oc4 of4 oc5 of5 pc6 pc7
  have PB := PB'
  have RB := RB'
  have OB := OB'
  have bel := bel'
  have hlo := hlo'
  clear PB' RB' OB' bel' hlo'
  refine (to_lab _ t.verify _ (H3.out.below bel)).mono ?_
  rintro e y4 ⟨v4, rfl, own, hb⟩
  obtain ⟨B3, m3, d3, rfl, -, -, -⟩ := (id own)
  have V3 : Hid (∀ k, (Value.slice B3 m3 d3).ownBlock = some k → x3.heap.size ≤ k ∧ k < y4.heap.size) := Lib.hid (fun k hk => own.row k hk)
  have W1' : Hid (OwnLab (w.heap.size + 1 + 1 + 1) y4 (.agg #[.int .i64 t.taint.base, .slice B0 m0 d0]) t.taint) := Lib.hid (W1.out.below hb)
  clear W1
  have W1 := W1'
  clear W1'
  have W2' : Hid (OwnLab (w.heap.size + 1 + 1 + 1) y4 (.agg #[.int .i64 t.clear.base, .slice B1 m1 d1]) t.clear) := Lib.hid (W2.out.below hb)
  clear W2
  have W2 := W2'
  clear W2'
  have W3' : Hid (OwnLab (w.heap.size + 1 + 1 + 1) y4 (.agg #[.int .i64 t.raise.base, .slice B2 m2 d2]) t.raise) := Lib.hid (W3.out.below hb)
  clear W3
  have W3 := W3'
  clear W3'
  have W4 : Hid (OwnLab (w.heap.size + 1 + 1 + 1) y4 (.agg #[.int .i64 t.verify.base, .slice B3 m3 d3]) t.verify) := Lib.hid (own.lower (by omega))
  have PB' := Lib.hid (PB.out.below hb)
  have RB' := Lib.hid (RB.out.below hb)
  have OB' := Lib.hid (OB.out.below hb)
  have bel' := below_more bel hb
  have hlo' : w.heap.size + 1 + 1 < y4.heap.size := by have := hb.size; omega
  have hxy4 : x3.heap.size ≤ y4.heap.size := hb.size
  clear PB RB OB bel hlo hb own
  have PB := PB'
  have RB := RB'
  have OB := OB'
  have bel := bel'
  have hlo := hlo'
  clear PB' RB' OB' bel' hlo'
  have hs4 := hsx
  clear hsx
  have oc6 := OB.out.cell 6 rfl
  have of6 := OB.out.free 6
  have oc7 := OB.out.cell 7 rfl
  have of7 := OB.out.free 7
  go_upto_region 6 with fail
  generalize hW : ((y4).setCell ⟨w.heap.size + 1 + 1, 6, none⟩ (.int .i64 t.verify.base)).setCell ⟨w.heap.size + 1 + 1, 7, none⟩ (.slice B3 m3 d3) = x4
  have PB' : Hid (Box x4 (w.heap.size) [.int .i64 t.taint.base, .slice A0 n0 c0, .int .i64 t.clear.base, .slice A1 n1 c1, .int .i64 t.raise.base, .slice A2 n2 c2, .int .i64 t.verify.base, .slice A3 n3 c3]) := Lib.hid (by rw [← hW]; exact ((PB.out.far (by omega)).far (by omega)))
  have RB' : Hid (Box x4 (w.heap.size + 1) [.int .i64 0, .slice none 0 0, .int .i64 0, .slice none 0 0, .int .i64 0, .slice none 0 0, .int .i64 0, .slice none 0 0]) := Lib.hid (by rw [← hW]; exact ((RB.out.far (by omega)).far (by omega)))
  have OB' : Hid (Box x4 (w.heap.size + 1 + 1) [.int .i64 t.taint.base, .slice B0 m0 d0, .int .i64 t.clear.base, .slice B1 m1 d1, .int .i64 t.raise.base, .slice B2 m2 d2, .int .i64 t.verify.base, .slice B3 m3 d3]) := Lib.hid (by rw [← hW]; exact ((OB.out.set (by simp)).set (by simp)))
  have W1' := Lib.hid (show _ from (by rw [← hW]; exact ((W1.out.past (by omega)).past (by omega)) : OwnLab (w.heap.size + 1 + 1 + 1) x4 (.agg #[.int .i64 t.taint.base, .slice B0 m0 d0]) t.taint))
  clear W1
  have W1 := W1'
  clear W1'
  have W2' := Lib.hid (show _ from (by rw [← hW]; exact ((W2.out.past (by omega)).past (by omega)) : OwnLab (w.heap.size + 1 + 1 + 1) x4 (.agg #[.int .i64 t.clear.base, .slice B1 m1 d1]) t.clear))
  clear W2
  have W2 := W2'
  clear W2'
  have W3' := Lib.hid (show _ from (by rw [← hW]; exact ((W3.out.past (by omega)).past (by omega)) : OwnLab (w.heap.size + 1 + 1 + 1) x4 (.agg #[.int .i64 t.raise.base, .slice B2 m2 d2]) t.raise))
  clear W3
  have W3 := W3'
  clear W3'
  have W4' := Lib.hid (show _ from (by rw [← hW]; exact ((W4.out.past (by omega)).past (by omega)) : OwnLab (w.heap.size + 1 + 1 + 1) x4 (.agg #[.int .i64 t.verify.base, .slice B3 m3 d3]) t.verify))
  clear W4
  have W4 := W4'
  clear W4'
  have bel' : Below w.heap.size w x4 := by rw [← hW]; exact ((bel.setCell (by simp only []; omega) _).setCell (by simp only []; omega) _)
  have hlo' : w.heap.size + 1 + 1 < x4.heap.size := by rw [← hW]; simpa using hlo
  have hsx : x4.heap.size = y4.heap.size := by rw [← hW]; simp
  clear hW PB RB OB bel hlo oc6 of6 oc7 of7
  have PB := PB'
  have RB := RB'
  have OB := OB'
  have bel := bel'
  have hlo := hlo'
  clear PB' RB' OB' bel' hlo'
  have rc0 := RB.out.cell 0 rfl
  have rf0 := RB.out.free 0
  have oc0 := OB.out.cell 0 rfl
  have rc1 := RB.out.cell 1 rfl
  have rf1 := RB.out.free 1
  have oc1 := OB.out.cell 1 rfl
  have rc2 := RB.out.cell 2 rfl
  have rf2 := RB.out.free 2
  have oc2 := OB.out.cell 2 rfl
  have rc3 := RB.out.cell 3 rfl
  have rf3 := RB.out.free 3
  have oc3 := OB.out.cell 3 rfl
  have rc4 := RB.out.cell 4 rfl
  have rf4 := RB.out.free 4
  have oc4 := OB.out.cell 4 rfl
  have rc5 := RB.out.cell 5 rfl
  have rf5 := RB.out.free 5
  have oc5 := OB.out.cell 5 rfl
  have rc6 := RB.out.cell 6 rfl
  have rf6 := RB.out.free 6
  have oc6 := OB.out.cell 6 rfl
  have rc7 := RB.out.cell 7 rfl
  have rf7 := RB.out.free 7
  have oc7 := OB.out.cell 7 rfl
  go_wp2
  refine bodyPost_ret (v := .agg #[.int .i64 t.taint.base, .slice B0 m0 d0, .int .i64 t.clear.base, .slice B1 m1 d1, .int .i64 t.raise.base, .slice B2 m2 d2, .int .i64 t.verify.base, .slice B3 m3 d3]) (by simp [results, Try.results30, go_sem, rc0, rc1, rc2, rc3, rc4, rc5, rc6, rc7]) rfl ?_
  change RetTm t w _ (putRow x4 (w.heap.size + 1) 0 [.int .i64 t.taint.base, .slice B0 m0 d0, .int .i64 t.clear.base, .slice B1 m1 d1, .int .i64 t.raise.base, .slice B2 m2 d2, .int .i64 t.verify.base, .slice B3 m3 d3])
  refine ⟨_, rfl, ⟨B0, m0, d0, B1, m1, d1, B2, m2, d2, B3, m3, d3, rfl, ?_, ?_, ?_, ?_, ?_⟩, ?_⟩
  · exact (OwnLab.putRow [.int .i64 t.taint.base, .slice B0 m0 d0, .int .i64 t.clear.base, .slice B1 m1 d1, .int .i64 t.raise.base, .slice B2 m2 d2, .int .i64 t.verify.base, .slice B3 m3 d3] ((W1.out.lower (base' := w.heap.size + 1 + 1 + 1) (by omega))) (by omega)).lower (by omega)
  · exact (OwnLab.putRow [.int .i64 t.taint.base, .slice B0 m0 d0, .int .i64 t.clear.base, .slice B1 m1 d1, .int .i64 t.raise.base, .slice B2 m2 d2, .int .i64 t.verify.base, .slice B3 m3 d3] ((W2.out.lower (base' := w.heap.size + 1 + 1 + 1) (by omega))) (by omega)).lower (by omega)
  · exact (OwnLab.putRow [.int .i64 t.taint.base, .slice B0 m0 d0, .int .i64 t.clear.base, .slice B1 m1 d1, .int .i64 t.raise.base, .slice B2 m2 d2, .int .i64 t.verify.base, .slice B3 m3 d3] ((W3.out.lower (base' := w.heap.size + 1 + 1 + 1) (by omega))) (by omega)).lower (by omega)
  · exact (OwnLab.putRow [.int .i64 t.taint.base, .slice B0 m0 d0, .int .i64 t.clear.base, .slice B1 m1 d1, .int .i64 t.raise.base, .slice B2 m2 d2, .int .i64 t.verify.base, .slice B3 m3 d3] ((W4.out.lower (base' := w.heap.size + 1 + 1 + 1) (by omega))) (by omega)).lower (by omega)
  · skip
    have ap4 : Apart [] := .nil
    have ap3 : Apart [.int .i64 t.verify.base, .slice B3 m3 d3] := .int (.cons ap4 (fun k _ hk => by simp [fpOf] at hk)) _
    have ap2 : Apart [.int .i64 t.raise.base, .slice B2 m2 d2, .int .i64 t.verify.base, .slice B3 m3 d3] := .int (.cons ap3 (fun k hk hm => by
        have a := V2.out k hk
        simp only [own_int, Option.toList_none, List.nil_append, fpOf_cons, fpOf_nil, List.append_nil, mem_fp] at hm
        rcases hm with hm
        · have b := V3.out k hm; omega)) _
    have ap1 : Apart [.int .i64 t.clear.base, .slice B1 m1 d1, .int .i64 t.raise.base, .slice B2 m2 d2, .int .i64 t.verify.base, .slice B3 m3 d3] := .int (.cons ap2 (fun k hk hm => by
        have a := V1.out k hk
        simp only [own_int, Option.toList_none, List.nil_append, fpOf_cons, fpOf_nil, List.mem_append, List.append_nil, mem_fp] at hm
        rcases hm with hm | hm
        · have b := V2.out k hm; omega
        · have b := V3.out k hm; omega)) _
    have ap0 : Apart [.int .i64 t.taint.base, .slice B0 m0 d0, .int .i64 t.clear.base, .slice B1 m1 d1, .int .i64 t.raise.base, .slice B2 m2 d2, .int .i64 t.verify.base, .slice B3 m3 d3] := .int (.cons ap1 (fun k hk hm => by
        have a := V0.out k hk
        simp only [own_int, Option.toList_none, List.nil_append, fpOf_cons, fpOf_nil, List.mem_append, List.append_nil, mem_fp] at hm
        rcases hm with hm | hm | hm
        · have b := V1.out k hm; omega
        · have b := V2.out k hm; omega
        · have b := V3.out k hm; omega)) _
    exact ap0
  · exact below_putRow [.int .i64 t.taint.base, .slice B0 m0 d0, .int .i64 t.clear.base, .slice B1 m1 d1, .int .i64 t.raise.base, .slice B2 m2 d2, .int .i64 t.verify.base, .slice B3 m3 d3] bel (by omega)
set_option maxHeartbeats 4000000 in
theorem eq_tm (v u : Value) (t s : Tm) (w : World) (h : RdTm w v t) (k : RdTm w u s) : Calls Try.prog 33 #[v, u] w (RetV (.bool (tmEq t s)) w) := by
  obtain ⟨A0, n0, c0, A1, n1, c1, A2, n2, c2, A3, n3, c3, rfl, h0, h1, h2, h3⟩ := h
  obtain ⟨Aq0, nq0, cq0, Aq1, nq1, cq1, Aq2, nq2, cq2, Aq3, nq3, cq3, rfl, k0, k1, k2, k3⟩ := k
  have H0 := Lib.hid h0
  have K0 := Lib.hid k0
  clear h0 k0
  have H1 := Lib.hid h1
  have K1 := Lib.hid k1
  clear h1 k1
  have H2 := Lib.hid h2
  have K2 := Lib.hid k2
  clear h2 k2
  have H3 := Lib.hid h3
  have K3 := Lib.hid k3
  clear h3 k3
  cases e0 : labEq t.taint s.taint
  · skip
    have HR : Hid (tmEq t s = false) := Lib.hid (by simp [tmEq, e0])
    go_enter Try.func33, Try.ntmps33
    go_wp2_with fail
    generalize hW : (w.alloc (.cells #[.int .i64 t.taint.base, .slice A0 n0 c0, .int .i64 t.clear.base, .slice A1 n1 c1, .int .i64 t.raise.base, .slice A2 n2 c2, .int .i64 t.verify.base, .slice A3 n3 c3] 35)).alloc (.cells #[.int .i64 s.taint.base, .slice Aq0 nq0 cq0, .int .i64 s.clear.base, .slice Aq1 nq1 cq1, .int .i64 s.raise.base, .slice Aq2 nq2 cq2, .int .i64 s.verify.base, .slice Aq3 nq3 cq3] 35) = x0
    obtain ⟨pb, qb, hsz, bel⟩ := laid2 (ps := [.int .i64 t.taint.base, .slice A0 n0 c0, .int .i64 t.clear.base, .slice A1 n1 c1, .int .i64 t.raise.base, .slice A2 n2 c2, .int .i64 t.verify.base, .slice A3 n3 c3]) (rs := [.int .i64 s.taint.base, .slice Aq0 nq0 cq0, .int .i64 s.clear.base, .slice Aq1 nq1 cq1, .int .i64 s.raise.base, .slice Aq2 nq2 cq2, .int .i64 s.verify.base, .slice Aq3 nq3 cq3]) hW
    have PB := Lib.hid pb
    have QB := Lib.hid qb
    clear hW pb qb hsz
    refine (eq_lab _ _ t.taint s.taint _ (H0.out.below bel) (K0.out.below bel)).mono ?_
    rintro e y0 ⟨rfl, hb⟩
    have PB' := Lib.hid (PB.out.below hb)
    have QB' := Lib.hid (QB.out.below hb)
    have bel' := below_more bel hb
    clear PB QB bel hb
    have PB := PB'
    have QB := QB'
    have bel := bel'
    clear PB' QB' bel'
    go_wp2
    go_ret
    exact .mk (by rw [HR.out]; rfl) bel
  · skip
    cases e1 : labEq t.clear s.clear
    · skip
      have HR : Hid (tmEq t s = false) := Lib.hid (by simp [tmEq, e0, e1])
      go_enter Try.func33, Try.ntmps33
      go_wp2_with fail
      generalize hW : (w.alloc (.cells #[.int .i64 t.taint.base, .slice A0 n0 c0, .int .i64 t.clear.base, .slice A1 n1 c1, .int .i64 t.raise.base, .slice A2 n2 c2, .int .i64 t.verify.base, .slice A3 n3 c3] 35)).alloc (.cells #[.int .i64 s.taint.base, .slice Aq0 nq0 cq0, .int .i64 s.clear.base, .slice Aq1 nq1 cq1, .int .i64 s.raise.base, .slice Aq2 nq2 cq2, .int .i64 s.verify.base, .slice Aq3 nq3 cq3] 35) = x0
      obtain ⟨pb, qb, hsz, bel⟩ := laid2 (ps := [.int .i64 t.taint.base, .slice A0 n0 c0, .int .i64 t.clear.base, .slice A1 n1 c1, .int .i64 t.raise.base, .slice A2 n2 c2, .int .i64 t.verify.base, .slice A3 n3 c3]) (rs := [.int .i64 s.taint.base, .slice Aq0 nq0 cq0, .int .i64 s.clear.base, .slice Aq1 nq1 cq1, .int .i64 s.raise.base, .slice Aq2 nq2 cq2, .int .i64 s.verify.base, .slice Aq3 nq3 cq3]) hW
      have PB := Lib.hid pb
      have QB := Lib.hid qb
      clear hW pb qb hsz
      refine (eq_lab _ _ t.taint s.taint _ (H0.out.below bel) (K0.out.below bel)).mono ?_
      rintro e y0 ⟨rfl, hb⟩
      have PB' := Lib.hid (PB.out.below hb)
      have QB' := Lib.hid (QB.out.below hb)
      have bel' := below_more bel hb
      clear PB QB bel hb
      have PB := PB'
      have QB := QB'
      have bel := bel'
      clear PB' QB' bel'
      have pc2 := PB.out.cell 2 rfl
      have qc2 := QB.out.cell 2 rfl
      have pc3 := PB.out.cell 3 rfl
      have qc3 := QB.out.cell 3 rfl
      go_wp2_with fail
      refine (eq_lab _ _ t.clear s.clear _ (H1.out.below bel) (K1.out.below bel)).mono ?_
      rintro e y1 ⟨rfl, hb⟩
      have PB' := Lib.hid (PB.out.below hb)
      have QB' := Lib.hid (QB.out.below hb)
      have bel' := below_more bel hb
      clear PB QB bel hb pc2 qc2 pc3 qc3
      have PB := PB'
      have QB := QB'
      have bel := bel'
      clear PB' QB' bel'
      go_wp2
      go_ret
      exact .mk (by rw [HR.out]; rfl) bel
    · skip
      cases e2 : labEq t.raise s.raise
      · skip
        have HR : Hid (tmEq t s = false) := Lib.hid (by simp [tmEq, e0, e1, e2])
        go_enter Try.func33, Try.ntmps33
        go_wp2_with fail
        generalize hW : (w.alloc (.cells #[.int .i64 t.taint.base, .slice A0 n0 c0, .int .i64 t.clear.base, .slice A1 n1 c1, .int .i64 t.raise.base, .slice A2 n2 c2, .int .i64 t.verify.base, .slice A3 n3 c3] 35)).alloc (.cells #[.int .i64 s.taint.base, .slice Aq0 nq0 cq0, .int .i64 s.clear.base, .slice Aq1 nq1 cq1, .int .i64 s.raise.base, .slice Aq2 nq2 cq2, .int .i64 s.verify.base, .slice Aq3 nq3 cq3] 35) = x0
        obtain ⟨pb, qb, hsz, bel⟩ := laid2 (ps := [.int .i64 t.taint.base, .slice A0 n0 c0, .int .i64 t.clear.base, .slice A1 n1 c1, .int .i64 t.raise.base, .slice A2 n2 c2, .int .i64 t.verify.base, .slice A3 n3 c3]) (rs := [.int .i64 s.taint.base, .slice Aq0 nq0 cq0, .int .i64 s.clear.base, .slice Aq1 nq1 cq1, .int .i64 s.raise.base, .slice Aq2 nq2 cq2, .int .i64 s.verify.base, .slice Aq3 nq3 cq3]) hW
        have PB := Lib.hid pb
        have QB := Lib.hid qb
        clear hW pb qb hsz
        refine (eq_lab _ _ t.taint s.taint _ (H0.out.below bel) (K0.out.below bel)).mono ?_
        rintro e y0 ⟨rfl, hb⟩
        have PB' := Lib.hid (PB.out.below hb)
        have QB' := Lib.hid (QB.out.below hb)
        have bel' := below_more bel hb
        clear PB QB bel hb
        have PB := PB'
        have QB := QB'
        have bel := bel'
        clear PB' QB' bel'
        have pc2 := PB.out.cell 2 rfl
        have qc2 := QB.out.cell 2 rfl
        have pc3 := PB.out.cell 3 rfl
        have qc3 := QB.out.cell 3 rfl
        go_wp2_with fail
        refine (eq_lab _ _ t.clear s.clear _ (H1.out.below bel) (K1.out.below bel)).mono ?_
        rintro e y1 ⟨rfl, hb⟩
        have PB' := Lib.hid (PB.out.below hb)
        have QB' := Lib.hid (QB.out.below hb)
        have bel' := below_more bel hb
        clear PB QB bel hb pc2 qc2 pc3 qc3
        have PB := PB'
        have QB := QB'
        have bel := bel'
        clear PB' QB' bel'
        have pc4 := PB.out.cell 4 rfl
        have qc4 := QB.out.cell 4 rfl
        have pc5 := PB.out.cell 5 rfl
        have qc5 := QB.out.cell 5 rfl
        go_wp2_with fail
        refine (eq_lab _ _ t.raise s.raise _ (H2.out.below bel) (K2.out.below bel)).mono ?_
        rintro e y2 ⟨rfl, hb⟩
        have PB' := Lib.hid (PB.out.below hb)
        have QB' := Lib.hid (QB.out.below hb)
        have bel' := below_more bel hb
        clear PB QB bel hb pc4 qc4 pc5 qc5
        have PB := PB'
        have QB := QB'
        have bel := bel'
        clear PB' QB' bel'
        go_wp2
        go_ret
        exact .mk (by rw [HR.out]; rfl) bel
      · skip
        cases e3 : labEq t.verify s.verify
        · skip
          have HR : Hid (tmEq t s = false) := Lib.hid (by simp [tmEq, e0, e1, e2, e3])
          go_enter Try.func33, Try.ntmps33
          go_wp2_with fail
          generalize hW : (w.alloc (.cells #[.int .i64 t.taint.base, .slice A0 n0 c0, .int .i64 t.clear.base, .slice A1 n1 c1, .int .i64 t.raise.base, .slice A2 n2 c2, .int .i64 t.verify.base, .slice A3 n3 c3] 35)).alloc (.cells #[.int .i64 s.taint.base, .slice Aq0 nq0 cq0, .int .i64 s.clear.base, .slice Aq1 nq1 cq1, .int .i64 s.raise.base, .slice Aq2 nq2 cq2, .int .i64 s.verify.base, .slice Aq3 nq3 cq3] 35) = x0
          obtain ⟨pb, qb, hsz, bel⟩ := laid2 (ps := [.int .i64 t.taint.base, .slice A0 n0 c0, .int .i64 t.clear.base, .slice A1 n1 c1, .int .i64 t.raise.base, .slice A2 n2 c2, .int .i64 t.verify.base, .slice A3 n3 c3]) (rs := [.int .i64 s.taint.base, .slice Aq0 nq0 cq0, .int .i64 s.clear.base, .slice Aq1 nq1 cq1, .int .i64 s.raise.base, .slice Aq2 nq2 cq2, .int .i64 s.verify.base, .slice Aq3 nq3 cq3]) hW
          have PB := Lib.hid pb
          have QB := Lib.hid qb
          clear hW pb qb hsz
          refine (eq_lab _ _ t.taint s.taint _ (H0.out.below bel) (K0.out.below bel)).mono ?_
          rintro e y0 ⟨rfl, hb⟩
          have PB' := Lib.hid (PB.out.below hb)
          have QB' := Lib.hid (QB.out.below hb)
          have bel' := below_more bel hb
          clear PB QB bel hb
          have PB := PB'
          have QB := QB'
          have bel := bel'
          clear PB' QB' bel'
          have pc2 := PB.out.cell 2 rfl
          have qc2 := QB.out.cell 2 rfl
          have pc3 := PB.out.cell 3 rfl
          have qc3 := QB.out.cell 3 rfl
          go_wp2_with fail
          refine (eq_lab _ _ t.clear s.clear _ (H1.out.below bel) (K1.out.below bel)).mono ?_
          rintro e y1 ⟨rfl, hb⟩
          have PB' := Lib.hid (PB.out.below hb)
          have QB' := Lib.hid (QB.out.below hb)
          have bel' := below_more bel hb
          clear PB QB bel hb pc2 qc2 pc3 qc3
          have PB := PB'
          have QB := QB'
          have bel := bel'
          clear PB' QB' bel'
          have pc4 := PB.out.cell 4 rfl
          have qc4 := QB.out.cell 4 rfl
          have pc5 := PB.out.cell 5 rfl
          have qc5 := QB.out.cell 5 rfl
          go_wp2_with fail
          refine (eq_lab _ _ t.raise s.raise _ (H2.out.below bel) (K2.out.below bel)).mono ?_
          rintro e y2 ⟨rfl, hb⟩
          have PB' := Lib.hid (PB.out.below hb)
          have QB' := Lib.hid (QB.out.below hb)
          have bel' := below_more bel hb
          clear PB QB bel hb pc4 qc4 pc5 qc5
          have PB := PB'
          have QB := QB'
          have bel := bel'
          clear PB' QB' bel'
          have pc6 := PB.out.cell 6 rfl
          have qc6 := QB.out.cell 6 rfl
          have pc7 := PB.out.cell 7 rfl
          have qc7 := QB.out.cell 7 rfl
          go_wp2_with fail
          refine (eq_lab _ _ t.verify s.verify _ (H3.out.below bel) (K3.out.below bel)).mono ?_
          rintro e y3 ⟨rfl, hb⟩
          have PB' := Lib.hid (PB.out.below hb)
          have QB' := Lib.hid (QB.out.below hb)
          have bel' := below_more bel hb
          clear PB QB bel hb pc6 qc6 pc7 qc7
          have PB := PB'
          have QB := QB'
          have bel := bel'
          clear PB' QB' bel'
          go_wp2
          go_ret
          exact .mk (by rw [HR.out]; rfl) bel
        · skip
          have HR : Hid (tmEq t s = true) := Lib.hid (by simp [tmEq, e0, e1, e2, e3])
          go_enter Try.func33, Try.ntmps33
          go_wp2_with fail
          generalize hW : (w.alloc (.cells #[.int .i64 t.taint.base, .slice A0 n0 c0, .int .i64 t.clear.base, .slice A1 n1 c1, .int .i64 t.raise.base, .slice A2 n2 c2, .int .i64 t.verify.base, .slice A3 n3 c3] 35)).alloc (.cells #[.int .i64 s.taint.base, .slice Aq0 nq0 cq0, .int .i64 s.clear.base, .slice Aq1 nq1 cq1, .int .i64 s.raise.base, .slice Aq2 nq2 cq2, .int .i64 s.verify.base, .slice Aq3 nq3 cq3] 35) = x0
          obtain ⟨pb, qb, hsz, bel⟩ := laid2 (ps := [.int .i64 t.taint.base, .slice A0 n0 c0, .int .i64 t.clear.base, .slice A1 n1 c1, .int .i64 t.raise.base, .slice A2 n2 c2, .int .i64 t.verify.base, .slice A3 n3 c3]) (rs := [.int .i64 s.taint.base, .slice Aq0 nq0 cq0, .int .i64 s.clear.base, .slice Aq1 nq1 cq1, .int .i64 s.raise.base, .slice Aq2 nq2 cq2, .int .i64 s.verify.base, .slice Aq3 nq3 cq3]) hW
          have PB := Lib.hid pb
          have QB := Lib.hid qb
          clear hW pb qb hsz
          refine (eq_lab _ _ t.taint s.taint _ (H0.out.below bel) (K0.out.below bel)).mono ?_
          rintro e y0 ⟨rfl, hb⟩
          have PB' := Lib.hid (PB.out.below hb)
          have QB' := Lib.hid (QB.out.below hb)
          have bel' := below_more bel hb
          clear PB QB bel hb
          have PB := PB'
          have QB := QB'
          have bel := bel'
          clear PB' QB' bel'
          have pc2 := PB.out.cell 2 rfl
          have qc2 := QB.out.cell 2 rfl
          have pc3 := PB.out.cell 3 rfl
          have qc3 := QB.out.cell 3 rfl
          go_wp2_with fail
          refine (eq_lab _ _ t.clear s.clear _ (H1.out.below bel) (K1.out.below bel)).mono ?_
          rintro e y1 ⟨rfl, hb⟩
          have PB' := Lib.hid (PB.out.below hb)
          have QB' := Lib.hid (QB.out.below hb)
          have bel' := below_more bel hb
          clear PB QB bel hb pc2 qc2 pc3 qc3
          have PB := PB'
          have QB := QB'
          have bel := bel'
          clear PB' QB' bel'
          have pc4 := PB.out.cell 4 rfl
          have qc4 := QB.out.cell 4 rfl
          have pc5 := PB.out.cell 5 rfl
          have qc5 := QB.out.cell 5 rfl
          go_wp2_with fail
          refine (eq_lab _ _ t.raise s.raise _ (H2.out.below bel) (K2.out.below bel)).mono ?_
          rintro e y2 ⟨rfl, hb⟩
          have PB' := Lib.hid (PB.out.below hb)
          have QB' := Lib.hid (QB.out.below hb)
          have bel' := below_more bel hb
          clear PB QB bel hb pc4 qc4 pc5 qc5
          have PB := PB'
          have QB := QB'
          have bel := bel'
          clear PB' QB' bel'
          have pc6 := PB.out.cell 6 rfl
          have qc6 := QB.out.cell 6 rfl
          have pc7 := PB.out.cell 7 rfl
          have qc7 := QB.out.cell 7 rfl
          go_wp2_with fail
          refine (eq_lab _ _ t.verify s.verify _ (H3.out.below bel) (K3.out.below bel)).mono ?_
          rintro e y3 ⟨rfl, hb⟩
          have PB' := Lib.hid (PB.out.below hb)
          have QB' := Lib.hid (QB.out.below hb)
          have bel' := below_more bel hb
          clear PB QB bel hb pc6 qc6 pc7 qc7
          have PB := PB'
          have QB := QB'
          have bel := bel'
          clear PB' QB' bel'
          go_wp2
          go_ret
          exact .mk (by rw [HR.out]; rfl) bel
set_option maxHeartbeats 4000000 in
theorem sz_tm_yes (v : Value) (t : Tm) (left : Int) (w : World) (z0 : 0 ≤ left) (z1 : left ≤ 1048576) (hl : (tmLen t : Nat) ≤ left) (h : ShTm v t) : Calls Try.prog 24 #[v, .int .i64 left] w (RetV (.int .i64 (left - (tmLen t : Nat))) w) := by
  obtain ⟨A0, n0, c0, A1, n1, c1, A2, n2, c2, A3, n3, c3, rfl, h0, h1, h2, h3⟩ := h
  have S0 := Lib.hid h0
  clear h0
  have S1 := Lib.hid h1
  clear h1
  have S2 := Lib.hid h2
  clear h2
  have S3 := Lib.hid h3
  clear h3
  have HR : Hid (left - (tmLen t : Nat) = left - (t.taint.parts.length : Nat) - (t.clear.parts.length : Nat) - (t.raise.parts.length : Nat) - (t.verify.parts.length : Nat)) := Lib.hid (by unfold tmLen; omega)
  unfold tmLen at hl
  go_enter Try.func24, Try.ntmps24
  go_wp2_with fail
  generalize hW : w.alloc (.cells #[.int .i64 t.taint.base, .slice A0 n0 c0, .int .i64 t.clear.base, .slice A1 n1 c1, .int .i64 t.raise.base, .slice A2 n2 c2, .int .i64 t.verify.base, .slice A3 n3 c3] 26) = x0
  obtain ⟨pb, hsz, bel⟩ := laid1 (ps := [.int .i64 t.taint.base, .slice A0 n0 c0, .int .i64 t.clear.base, .slice A1 n1 c1, .int .i64 t.raise.base, .slice A2 n2 c2, .int .i64 t.verify.base, .slice A3 n3 c3]) hW
  have PB := Lib.hid pb
  clear hW pb hsz
  refine (sz_labx_yes _ t.taint (left) _ (by omega) (by omega) (by omega) S0.out).mono ?_
  rintro e y0 ⟨rfl, hb⟩
  have PB' := Lib.hid (PB.out.below hb)
  have bel' := below_more bel hb
  clear PB bel hb
  have PB := PB'
  have bel := bel'
  clear PB' bel'
  have g0 : ¬ (left - (t.taint.parts.length : Nat)) < 0 := by omega
  have pc2 := PB.out.cell 2 rfl
  have pc3 := PB.out.cell 3 rfl
  go_wp2_with fail
  refine (sz_labx_yes _ t.clear (left - (t.taint.parts.length : Nat)) _ (by omega) (by omega) (by omega) S1.out).mono ?_
  rintro e y1 ⟨rfl, hb⟩
  have PB' := Lib.hid (PB.out.below hb)
  have bel' := below_more bel hb
  clear PB bel hb pc2 pc3
  have PB := PB'
  have bel := bel'
  clear PB' bel'
  have g1 : ¬ (left - (t.taint.parts.length : Nat) - (t.clear.parts.length : Nat)) < 0 := by omega
  have pc4 := PB.out.cell 4 rfl
  have pc5 := PB.out.cell 5 rfl
  go_wp2_with fail
  refine (sz_labx_yes _ t.raise (left - (t.taint.parts.length : Nat) - (t.clear.parts.length : Nat)) _ (by omega) (by omega) (by omega) S2.out).mono ?_
  rintro e y2 ⟨rfl, hb⟩
  have PB' := Lib.hid (PB.out.below hb)
  have bel' := below_more bel hb
  clear PB bel hb pc4 pc5
  have PB := PB'
  have bel := bel'
  clear PB' bel'
  have g2 : ¬ (left - (t.taint.parts.length : Nat) - (t.clear.parts.length : Nat) - (t.raise.parts.length : Nat)) < 0 := by omega
  have pc6 := PB.out.cell 6 rfl
  have pc7 := PB.out.cell 7 rfl
  go_wp2_with fail
  refine (sz_labx_yes _ t.verify (left - (t.taint.parts.length : Nat) - (t.clear.parts.length : Nat) - (t.raise.parts.length : Nat)) _ (by omega) (by omega) (by omega) S3.out).mono ?_
  rintro e y3 ⟨rfl, hb⟩
  have PB' := Lib.hid (PB.out.below hb)
  have bel' := below_more bel hb
  clear PB bel hb pc6 pc7
  have PB := PB'
  have bel := bel'
  clear PB' bel'
  have g3 : ¬ (left - (t.taint.parts.length : Nat) - (t.clear.parts.length : Nat) - (t.raise.parts.length : Nat) - (t.verify.parts.length : Nat)) < 0 := by omega
  go_wp2
  go_ret
  exact .mk (by rw [HR.out]; rfl) bel
set_option maxHeartbeats 4000000 in
theorem sz_tm_no (v : Value) (t : Tm) (left : Int) (w : World) (z0 : 0 ≤ left) (z1 : left ≤ 1048576) (hl : left < (tmLen t : Nat)) (h : ShTm v t) : Calls Try.prog 24 #[v, .int .i64 left] w (RetV (.int .i64 (-1)) w) := by
  obtain ⟨A0, n0, c0, A1, n1, c1, A2, n2, c2, A3, n3, c3, rfl, h0, h1, h2, h3⟩ := h
  have S0 := Lib.hid h0
  clear h0
  have S1 := Lib.hid h1
  clear h1
  have S2 := Lib.hid h2
  clear h2
  have S3 := Lib.hid h3
  clear h3
  unfold tmLen at hl
  by_cases e0 : (t.taint.parts.length : Nat) ≤ left
  · skip
    by_cases e1 : (t.clear.parts.length : Nat) ≤ left - (t.taint.parts.length : Nat)
    · skip
      by_cases e2 : (t.raise.parts.length : Nat) ≤ left - (t.taint.parts.length : Nat) - (t.clear.parts.length : Nat)
      · skip
        go_enter Try.func24, Try.ntmps24
        go_wp2_with fail
        generalize hW : w.alloc (.cells #[.int .i64 t.taint.base, .slice A0 n0 c0, .int .i64 t.clear.base, .slice A1 n1 c1, .int .i64 t.raise.base, .slice A2 n2 c2, .int .i64 t.verify.base, .slice A3 n3 c3] 26) = x0
        obtain ⟨pb, hsz, bel⟩ := laid1 (ps := [.int .i64 t.taint.base, .slice A0 n0 c0, .int .i64 t.clear.base, .slice A1 n1 c1, .int .i64 t.raise.base, .slice A2 n2 c2, .int .i64 t.verify.base, .slice A3 n3 c3]) hW
        have PB := Lib.hid pb
        clear hW pb hsz
        refine (sz_labx_yes _ t.taint (left) _ (by omega) (by omega) (by omega) S0.out).mono ?_
        rintro e y0 ⟨rfl, hb⟩
        have PB' := Lib.hid (PB.out.below hb)
        have bel' := below_more bel hb
        clear PB bel hb
        have PB := PB'
        have bel := bel'
        clear PB' bel'
        have g0 : ¬ (left - (t.taint.parts.length : Nat)) < 0 := by omega
        have pc2 := PB.out.cell 2 rfl
        have pc3 := PB.out.cell 3 rfl
        go_wp2_with fail
        refine (sz_labx_yes _ t.clear (left - (t.taint.parts.length : Nat)) _ (by omega) (by omega) (by omega) S1.out).mono ?_
        rintro e y1 ⟨rfl, hb⟩
        have PB' := Lib.hid (PB.out.below hb)
        have bel' := below_more bel hb
        clear PB bel hb pc2 pc3
        have PB := PB'
        have bel := bel'
        clear PB' bel'
        have g1 : ¬ (left - (t.taint.parts.length : Nat) - (t.clear.parts.length : Nat)) < 0 := by omega
        have pc4 := PB.out.cell 4 rfl
        have pc5 := PB.out.cell 5 rfl
        go_wp2_with fail
        refine (sz_labx_yes _ t.raise (left - (t.taint.parts.length : Nat) - (t.clear.parts.length : Nat)) _ (by omega) (by omega) (by omega) S2.out).mono ?_
        rintro e y2 ⟨rfl, hb⟩
        have PB' := Lib.hid (PB.out.below hb)
        have bel' := below_more bel hb
        clear PB bel hb pc4 pc5
        have PB := PB'
        have bel := bel'
        clear PB' bel'
        have g2 : ¬ (left - (t.taint.parts.length : Nat) - (t.clear.parts.length : Nat) - (t.raise.parts.length : Nat)) < 0 := by omega
        have pc6 := PB.out.cell 6 rfl
        have pc7 := PB.out.cell 7 rfl
        go_wp2_with fail
        refine (sz_labx_no _ t.verify (left - (t.taint.parts.length : Nat) - (t.clear.parts.length : Nat) - (t.raise.parts.length : Nat)) _ (by omega) (by omega) (by omega) S3.out).mono ?_
        rintro e y3 ⟨rfl, hb⟩
        have PB' := Lib.hid (PB.out.below hb)
        have bel' := below_more bel hb
        clear PB bel hb pc6 pc7
        have PB := PB'
        have bel := bel'
        clear PB' bel'
        go_wp2
        go_ret
        exact .mk (rfl) bel
      · skip
        go_enter Try.func24, Try.ntmps24
        go_wp2_with fail
        generalize hW : w.alloc (.cells #[.int .i64 t.taint.base, .slice A0 n0 c0, .int .i64 t.clear.base, .slice A1 n1 c1, .int .i64 t.raise.base, .slice A2 n2 c2, .int .i64 t.verify.base, .slice A3 n3 c3] 26) = x0
        obtain ⟨pb, hsz, bel⟩ := laid1 (ps := [.int .i64 t.taint.base, .slice A0 n0 c0, .int .i64 t.clear.base, .slice A1 n1 c1, .int .i64 t.raise.base, .slice A2 n2 c2, .int .i64 t.verify.base, .slice A3 n3 c3]) hW
        have PB := Lib.hid pb
        clear hW pb hsz
        refine (sz_labx_yes _ t.taint (left) _ (by omega) (by omega) (by omega) S0.out).mono ?_
        rintro e y0 ⟨rfl, hb⟩
        have PB' := Lib.hid (PB.out.below hb)
        have bel' := below_more bel hb
        clear PB bel hb
        have PB := PB'
        have bel := bel'
        clear PB' bel'
        have g0 : ¬ (left - (t.taint.parts.length : Nat)) < 0 := by omega
        have pc2 := PB.out.cell 2 rfl
        have pc3 := PB.out.cell 3 rfl
        go_wp2_with fail
        refine (sz_labx_yes _ t.clear (left - (t.taint.parts.length : Nat)) _ (by omega) (by omega) (by omega) S1.out).mono ?_
        rintro e y1 ⟨rfl, hb⟩
        have PB' := Lib.hid (PB.out.below hb)
        have bel' := below_more bel hb
        clear PB bel hb pc2 pc3
        have PB := PB'
        have bel := bel'
        clear PB' bel'
        have g1 : ¬ (left - (t.taint.parts.length : Nat) - (t.clear.parts.length : Nat)) < 0 := by omega
        have pc4 := PB.out.cell 4 rfl
        have pc5 := PB.out.cell 5 rfl
        go_wp2_with fail
        refine (sz_labx_no _ t.raise (left - (t.taint.parts.length : Nat) - (t.clear.parts.length : Nat)) _ (by omega) (by omega) (by omega) S2.out).mono ?_
        rintro e y2 ⟨rfl, hb⟩
        have PB' := Lib.hid (PB.out.below hb)
        have bel' := below_more bel hb
        clear PB bel hb pc4 pc5
        have PB := PB'
        have bel := bel'
        clear PB' bel'
        go_wp2
        go_ret
        exact .mk (rfl) bel
    · skip
      go_enter Try.func24, Try.ntmps24
      go_wp2_with fail
      generalize hW : w.alloc (.cells #[.int .i64 t.taint.base, .slice A0 n0 c0, .int .i64 t.clear.base, .slice A1 n1 c1, .int .i64 t.raise.base, .slice A2 n2 c2, .int .i64 t.verify.base, .slice A3 n3 c3] 26) = x0
      obtain ⟨pb, hsz, bel⟩ := laid1 (ps := [.int .i64 t.taint.base, .slice A0 n0 c0, .int .i64 t.clear.base, .slice A1 n1 c1, .int .i64 t.raise.base, .slice A2 n2 c2, .int .i64 t.verify.base, .slice A3 n3 c3]) hW
      have PB := Lib.hid pb
      clear hW pb hsz
      refine (sz_labx_yes _ t.taint (left) _ (by omega) (by omega) (by omega) S0.out).mono ?_
      rintro e y0 ⟨rfl, hb⟩
      have PB' := Lib.hid (PB.out.below hb)
      have bel' := below_more bel hb
      clear PB bel hb
      have PB := PB'
      have bel := bel'
      clear PB' bel'
      have g0 : ¬ (left - (t.taint.parts.length : Nat)) < 0 := by omega
      have pc2 := PB.out.cell 2 rfl
      have pc3 := PB.out.cell 3 rfl
      go_wp2_with fail
      refine (sz_labx_no _ t.clear (left - (t.taint.parts.length : Nat)) _ (by omega) (by omega) (by omega) S1.out).mono ?_
      rintro e y1 ⟨rfl, hb⟩
      have PB' := Lib.hid (PB.out.below hb)
      have bel' := below_more bel hb
      clear PB bel hb pc2 pc3
      have PB := PB'
      have bel := bel'
      clear PB' bel'
      go_wp2
      go_ret
      exact .mk (rfl) bel
  · skip
    go_enter Try.func24, Try.ntmps24
    go_wp2_with fail
    generalize hW : w.alloc (.cells #[.int .i64 t.taint.base, .slice A0 n0 c0, .int .i64 t.clear.base, .slice A1 n1 c1, .int .i64 t.raise.base, .slice A2 n2 c2, .int .i64 t.verify.base, .slice A3 n3 c3] 26) = x0
    obtain ⟨pb, hsz, bel⟩ := laid1 (ps := [.int .i64 t.taint.base, .slice A0 n0 c0, .int .i64 t.clear.base, .slice A1 n1 c1, .int .i64 t.raise.base, .slice A2 n2 c2, .int .i64 t.verify.base, .slice A3 n3 c3]) hW
    have PB := Lib.hid pb
    clear hW pb hsz
    refine (sz_labx_no _ t.taint (left) _ (by omega) (by omega) (by omega) S0.out).mono ?_
    rintro e y0 ⟨rfl, hb⟩
    have PB' := Lib.hid (PB.out.below hb)
    have bel' := below_more bel hb
    clear PB bel hb
    have PB := PB'
    have bel := bel'
    clear PB' bel'
    go_wp2
    go_ret
    exact .mk (rfl) bel
end Go.Proofs.Ytnpeojlhjbdjiaa
