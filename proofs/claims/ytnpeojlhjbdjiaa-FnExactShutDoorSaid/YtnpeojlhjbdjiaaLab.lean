/-
  Labels in memory, and the laws' helpers on them: copies, sizes, equality, marks.
-/
import Derived.Test.YtnpeojlhjbdjiaaFlPart
import Derived.OneCell
namespace Go.Proofs.Ytnpeojlhjbdjiaa
set_option maxRecDepth 100000
open Go.RowKit

/-- A label: its base, its parts. -/
structure Lab where
  base : Int
  parts : List (Int × Int)

def labEq (l m : Lab) : Bool := decide (l.base = m.base) && pteq l.parts m.parts
theorem labEq_rfl (l : Lab) : labEq l l = true := by simp [labEq, pteq_rfl]

/-- A value that reads as a label; one that the call owns. -/
def RdLab (w : World) (v : Value) (l : Lab) : Prop := ∃ A n c, v = .agg #[.int .i64 l.base, .slice A n c] ∧ l.parts.length = n ∧ n ≤ 1048576 ∧ n ≤ c ∧ c ≤ maxLen ∧ At w A (ptcells l.parts)
def OwnLab (base : Nat) (w : World) (v : Value) (l : Lab) : Prop := ∃ A n c, v = .agg #[.int .i64 l.base, .slice A n c] ∧ l.parts.length = n ∧ n ≤ 1048576 ∧ w.ownsRow base 82 2 (.slice A n c) n (ptcells l.parts)
/-- The row of a label's parts. -/
def labRow : Value → Value
  | .agg cs => cs.getD 1 (.slice none 0 0)
  | v => v

theorem RdLab.below {w w' : World} {v : Value} {l : Lab} (h : RdLab w v l) (hb : Below w.heap.size w w') : RdLab w' v l := by
  obtain ⟨A, n, c, rfl, hn, hl, hc, hm, ha⟩ := h
  exact ⟨A, n, c, rfl, hn, hl, hc, hm, ha.below hb⟩
theorem RdLab.alloc {w : World} {v : Value} {l : Lab} (h : RdLab w v l) (o : Obj) : RdLab (w.alloc o) v l := h.below ((Below.refl _ _).alloc (Nat.le_refl _) o)
theorem OwnLab.rd {base : Nat} {w : World} {v : Value} {l : Lab} (h : OwnLab base w v l) : RdLab w v l := by
  obtain ⟨A, n, c, rfl, hn, hl, ho⟩ := h
  obtain ⟨A', c', he, hc, hm, ha⟩ := own_at ho
  simp only [Value.slice.injEq, true_and] at he
  obtain ⟨rfl, rfl⟩ := he
  exact ⟨A, n, c, rfl, hn, hl, hc, hm, ha⟩
theorem OwnLab.below {base : Nat} {w w' : World} {v : Value} {l : Lab} (h : OwnLab base w v l) (hb : Below w.heap.size w w') : OwnLab base w' v l := by
  obtain ⟨A, n, c, rfl, hn, hl, ho⟩ := h
  exact ⟨A, n, c, rfl, hn, hl, own_below ho hb⟩
theorem OwnLab.lower {base base' : Nat} {w : World} {v : Value} {l : Lab} (h : OwnLab base w v l) (hb : base' ≤ base) : OwnLab base' w v l := by
  obtain ⟨A, n, c, rfl, hn, hl, ho⟩ := h
  exact ⟨A, n, c, rfl, hn, hl, own_lower ho hb⟩
/-- Another's row is written: this label stays. -/
theorem OwnLab.kept {base : Nat} {w w' : World} {v : Value} {l : Lab} {row : Option Nat} (h : OwnLab base w v l) (hg : w.grownBy w' row) (hne : ∀ k, row = some k → k < base) : OwnLab base w' v l := by
  obtain ⟨A, n, c, rfl, hn, hl, ho⟩ := h
  refine ⟨A, n, c, rfl, hn, hl, ho.kept hg ?_⟩
  cases hk : (Value.slice A n c).ownBlock with
  | none => exact .inl rfl
  | some k => exact .inr (fun e => by have := (ho.lt k hk).1; have := hne k e.symm; omega)

theorem over_alloc {w w' : World} {o : Obj} (hb : Below (w.alloc o).heap.size (w.alloc o) w') : Below w.heap.size w w' := ((Below.refl _ _).alloc (Nat.le_refl _) _).trans (hb.mono (by simp))
theorem OwnLab.over {base : Nat} {w w' : World} {v : Value} {l : Lab} {o : Obj} (h : OwnLab base w v l) (hb : Below (w.alloc o).heap.size (w.alloc o) w') : OwnLab base w' v l := h.below (over_alloc hb)
theorem RdLab.over {w w' : World} {v : Value} {l : Lab} {o : Obj} (h : RdLab w v l) (hb : Below (w.alloc o).heap.size (w.alloc o) w') : RdLab w' v l := h.below (over_alloc hb)
theorem OwnLab.row {base : Nat} {w : World} {v : Value} {l : Lab} (h : OwnLab base w v l) : ∀ k, (labRow v).ownBlock = some k → base ≤ k ∧ k < w.heap.size := by
  obtain ⟨A, n, c, rfl, hn, hl, ho⟩ := h
  exact ho.lt
/-- Another's row is written, wherever it lies. -/
theorem OwnLab.keptBy {base : Nat} {w w' : World} {v : Value} {l : Lab} {row : Option Nat} (h : OwnLab base w v l) (hg : w.grownBy w' row) (hne : ∀ k, (labRow v).ownBlock = some k → row ≠ some k) : OwnLab base w' v l := by
  obtain ⟨A, n, c, rfl, hn, hl, ho⟩ := h
  refine ⟨A, n, c, rfl, hn, hl, ho.kept hg ?_⟩
  cases hk : (Value.slice A n c).ownBlock with
  | none => exact .inl rfl
  | some k => exact .inr (fun e => hne k hk e.symm)
/-- The call returns a label of its own. -/
def RetLab (l : Lab) (w : World) (e : Ending) (w' : World) : Prop := ∃ v, e = .returned v ∧ OwnLab w.heap.size w' v l ∧ Below w.heap.size w w'

/-- .. and a bool beside it. -/
def RetLab2 (l : Lab) (b : Bool) (w : World) (e : Ending) (w' : World) : Prop := ∃ v, e = .returned (.tuple #[v, .bool b]) ∧ OwnLab w.heap.size w' v l ∧ Below w.heap.size w w'
theorem own_nil (base : Nat) (w : World) (b : Int) : OwnLab base w (.agg #[.int .i64 b, .slice none 0 0]) ⟨b, []⟩ := ⟨none, 0, 0, rfl, rfl, by omega, World.ownsRow_nil w base _ 2⟩
/-- A boxed label, behind a call that writes nothing that was there. -/
theorem box2 {w w1 : World} {a b : Value} {t : TypeId} (hb : Below (w.alloc (.cells #[a, b] t)).heap.size (w.alloc (.cells #[a, b] t)) w1) :
    w1.cell? ⟨w.heap.size, 0, none⟩ = some a ∧ w1.cell? ⟨w.heap.size, 1, none⟩ = some b ∧ w.heap.size < w1.heap.size ∧ Below w.heap.size w w1 :=
  ⟨(hb.cell (by simp)).trans (World.cell?_alloc_new _ _ _ 0), (hb.cell (by simp)).trans (World.cell?_alloc_new _ _ _ 1), by have := hb.size; simp at this; omega, ((Below.refl _ _).alloc (Nat.le_refl _) _).trans (hb.mono (by simp))⟩

/-- Two boxed labels, behind a call that writes nothing that was there. -/
theorem box4 {w w1 : World} {a b c d : Value} {t s : TypeId} (hb : Below ((w.alloc (.cells #[a, b] t)).alloc (.cells #[c, d] s)).heap.size ((w.alloc (.cells #[a, b] t)).alloc (.cells #[c, d] s)) w1) :
    (w1.cell? ⟨w.heap.size, 0, none⟩ = some a ∧ w1.cell? ⟨w.heap.size, 1, none⟩ = some b) ∧ (w1.cell? ⟨w.heap.size + 1, 0, none⟩ = some c ∧ w1.cell? ⟨w.heap.size + 1, 1, none⟩ = some d) ∧ w.heap.size + 1 < w1.heap.size ∧ Below w.heap.size w w1 :=
  ⟨⟨(hb.cell (by simp; omega)).trans (by simp [go_sem]), (hb.cell (by simp; omega)).trans (by simp [go_sem])⟩, ⟨(hb.cell (by simp)).trans (by simp [go_sem]), (hb.cell (by simp)).trans (by simp [go_sem])⟩, by have := hb.size; simp at this; omega,
    (((Below.refl _ _).alloc (Nat.le_refl _) _).alloc (by simp) _).trans (hb.mono (by simp; omega))⟩

theorem to_lab (v : Value) (l : Lab) (w : World) (h : RdLab w v l) : Calls Try.prog 29 #[v] w (RetLab l w) := by
  obtain ⟨A, n, c, rfl, hn, hl, hc, hm, ha⟩ := h
  have HN := Lib.hid hn
  clear hn hc hm
  go_enter Try.func29, Try.ntmps29
  go_wp2_with fail
  refine (to_pt A n c l.parts _ (by repeat (first | exact ha | apply At.alloc)) HN.out hl).mono ?_
  rintro e w1 ⟨s, rfl, hown, hb⟩
  obtain ⟨A', c', rfl, hc', hm', ha'⟩ := own_at hown
  obtain ⟨hcell, hfr⟩ := bcell hb
  have hz : w.heap.size + 1 + 1 < w1.heap.size := by have := hb.size; simp at this; omega
  have e0 : w1.cell? ⟨w.heap.size + 1, 0, none⟩ = some (.int .i64 0) := by rw [hcell _ _ (by simp)]; simp [go_sem]
  have e1 : w1.cell? ⟨w.heap.size + 1, 1, none⟩ = some (.slice none 0 0) := by rw [hcell _ _ (by simp)]; simp [go_sem]
  have e2 : w1.cell? ⟨w.heap.size + 1 + 1, 0, none⟩ = some (.int .i64 l.base) := by rw [hcell _ _ (by simp)]; simp [go_sem]
  have e3 : w1.cell? ⟨w.heap.size + 1 + 1, 1, none⟩ = some (.slice none 0 0) := by rw [hcell _ _ (by simp)]; simp [go_sem]
  have g0 : w1.frozen? ⟨w.heap.size + 1, 0, none⟩ = false := by rw [hfr _ _ (by simp)]; simp [go_sem]
  have g1 : w1.frozen? ⟨w.heap.size + 1, 1, none⟩ = false := by rw [hfr _ _ (by simp)]; simp [go_sem]
  have g2 : w1.frozen? ⟨w.heap.size + 1 + 1, 1, none⟩ = false := by rw [hfr _ _ (by simp)]; simp [go_sem]
  have HO := Lib.hid hown
  have hW : Below w.heap.size w w1 := ((((Below.refl _ _).alloc (Nat.le_refl _) _).alloc (by simp) _).alloc (by simp; omega) _).trans (hb.mono (by simp; omega))
  clear hown hb ha' ha hcell hfr
  go_wp2
  refine bodyPost_ret (v := .agg #[.int .i64 l.base, .slice A' n c']) (by simp [results, Try.results29, go_sem, e0, e1]) rfl ?_
  refine ⟨_, rfl, ⟨A', n, c', rfl, HN.out, hl, ?_⟩, by go_grown⟩
  refine own_lower (base := w.heap.size + 1 + 1 + 1) (ownsRow_setCell_below (ownsRow_setCell_below (ownsRow_setCell_below (own_lower HO.out (by simp)) ?_ _) ?_ _) ?_ _) (by omega)
  all_goals (simp only []; omega)

theorem eq_lab (v u : Value) (l m : Lab) (w : World) (h : RdLab w v l) (k : RdLab w u m) : Calls Try.prog 32 #[v, u] w (RetV (.bool (labEq l m)) w) := by
  obtain ⟨A, n, c, rfl, hn, hl, hc, hm, ha⟩ := h
  obtain ⟨B, n', d, rfl, hn', hl', hd, hm', hb⟩ := k
  have HN := Lib.hid hn
  have HN' := Lib.hid hn'
  clear hn hc hm hn' hd hm'
  by_cases h : l.base = m.base
  · have HR : Hid (labEq l m = pteq l.parts m.parts) := by unfold Hid labEq; rw [h]; simp
    have h' : (l.base != m.base) = false := by simpa using h
    clear h
    cases he : pteq l.parts m.parts
    all_goals
      go_enter Try.func32, Try.ntmps32
      go_wp2_with (go_at_call 60; refine (eq_pt A B n n' c d l.parts m.parts _ (by repeat (first | exact ha | apply At.alloc)) (by repeat (first | exact hb | apply At.alloc)) HN.out HN'.out hl hl').mono ?_; rintro e w1 ⟨rfl, hb1⟩)
      go_ret
      exact .mk (by rw [HR.out, he]; rfl) ((((Below.refl _ _).alloc (Nat.le_refl _) _).alloc (by simp) _).trans (hb1.mono (by simp; omega)))
  · have HR : Hid (labEq l m = false) := by unfold Hid labEq; simp [h]
    have h' : (l.base != m.base) = true := by simpa using h
    clear h
    go_enter Try.func32, Try.ntmps32
    go_wp2
    go_ret
    exact .mk (by rw [HR.out]; rfl) (by go_grown)

theorem sz_lab_no (A : Option Addr) (n c : Nat) (b left : Int) (w : World) (h0 : 0 ≤ left) (h1 : left ≤ 1048576) (hn : left < n) (hm : n ≤ 9223372036854775807) :
    Calls Try.prog 23 #[.agg #[.int .i64 b, .slice A n c], .int .i64 left] w (RetV (.int .i64 (-1)) w) := by
  go_enter Try.func23, Try.ntmps23
  go_wp2_with (go_at_call 51; refine (sz_pt_no A n c left _ h0 h1 hn hm).mono ?_; rintro e w1 ⟨rfl, rfl⟩)
  go_ret
  exact .mk rfl (by go_grown)
theorem sz_lab_yes (A : Option Addr) (n c : Nat) (b left : Int) (w : World) (h0 : 0 ≤ left) (h1 : left ≤ 1048576) (hn : n ≤ left) :
    Calls Try.prog 23 #[.agg #[.int .i64 b, .slice A n c], .int .i64 left] w (RetV (.int .i64 (left - n)) w) := by
  have hge : ¬ left - n < 0 := by omega
  go_enter Try.func23, Try.ntmps23
  go_wp2_with (go_at_call 51; refine (sz_pt_yes A n c left _ h0 h1 hn).mono ?_; rintro e w1 ⟨rfl, rfl⟩)
  go_ret
  exact .mk rfl (by go_grown)

/-- A label whose parts are marked. -/
def labMark (l : Lab) (k : Int) : Lab := ⟨l.base, ptmarks k l.parts.length⟩
/-- The call marks a label that the caller owns: its row alone is written. -/
def RetMarkLab (v : Value) (l : Lab) (base : Nat) (k : Int) (w : World) (e : Ending) (w' : World) : Prop :=
  e = .returned (.int .i64 (k + 2 * (l.parts.length : Int))) ∧ OwnLab base w' v (labMark l k) ∧ w.grownBy w' (labRow v).ownBlock

theorem mark_lab (v : Value) (l : Lab) (base : Nat) (k : Int) (w : World) (h0 : 0 ≤ k) (h1 : k ≤ 1000000000000) (h : OwnLab base w v l) :
    Calls Try.prog 45 #[v, .int .i64 k] w (RetMarkLab v l base k w) := by
  obtain ⟨A, n, c, rfl, hn, hl, ho⟩ := h
  have HN := Lib.hid hn
  clear hn
  go_enter Try.func45, Try.ntmps45
  go_wp2_with (go_at_call 65; refine (mark_pt A n c base k _ _ h0 h1 hl (ho.alloc _)).mono ?_; rintro e w1 ⟨rfl, hown, hg⟩)
  go_ret
  have hn := HN.out
  exact ⟨by rw [hn]; rfl, ⟨A, n, c, rfl, by simp [labMark, ptmarks_length, hn], hl, by simpa [labMark, hn] using hown⟩, gb_trans (World.grownBy_alloc _ _ _) hg⟩
theorem held_lab (v : Value) (l : Lab) (k : Int) (w : World) (h0 : 0 ≤ k) (h1 : k ≤ 1000000000000) (h : RdLab w v (labMark l k)) :
    Calls Try.prog 47 #[v, .int .i64 k] w (RetV (.int .i64 (k + 2 * (l.parts.length : Int))) w) := by
  obtain ⟨A, n, c, rfl, hn, hl, hc, hm, ha⟩ := h
  have hn' : l.parts.length = n := by simpa [labMark, ptmarks_length] using hn
  have ha' : At w A (ptcells (ptmarks k n)) := by simpa [labMark, hn'] using ha
  have hge : ¬ k + 2 * (n : Int) < 0 := by omega
  have HN := Lib.hid hn'
  clear hn hn' hc hm ha
  go_enter Try.func47, Try.ntmps47
  go_wp2_with (go_at_call 66; refine (held_pt A n c k _ h0 h1 hl (ha'.alloc _)).mono ?_; rintro e w1 ⟨rfl, hb⟩)
  go_ret
  exact .mk (by rw [HN.out]; rfl) (((Below.refl _ _).alloc (Nat.le_refl _) _).trans (hb.mono (by simp)))
end Go.Proofs.Ytnpeojlhjbdjiaa
