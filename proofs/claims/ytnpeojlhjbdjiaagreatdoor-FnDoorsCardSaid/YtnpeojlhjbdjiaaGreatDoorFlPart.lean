/-
  The laws' own helpers on []impl.Part: equality, copies, sizes, marks.
-/
import Derived.Test.YtnpeojlhjbdjiaaGreatDoorBase
import Derived.Test.YtnpeojlhjbdjiaaGreatDoorMem
import Derived.StillTailTactics
import Derived.Deep.QuietTactic
import Derived.BigQuiet
namespace Go.Proofs.YtnpeojlhjbdjiaaGreatDoor
set_option maxRecDepth 100000
open Go.RowKit

/-- The cells of an element, of a list. -/
def encPart (p : Int × Int) : List Value := [.int .i64 p.1, .int .i64 p.2]
theorem encPart_length (p : Int × Int) : (encPart p).length = 2 := rfl
def ptcells (ps : List (Int × Int)) : List Value := flat encPart ps
theorem ptcells_length (ps : List (Int × Int)) : (ptcells ps).length = ps.length * 2 := flat_length encPart_length ps
theorem ptcells_take (ps : List (Int × Int)) (k : Nat) : ptcells (ps.take k) = (ptcells ps).take (k * 2) := by have h := flat_take encPart_length ps k; exact h
theorem ptcells_drop (ps : List (Int × Int)) (k : Nat) : ptcells (ps.drop k) = (ptcells ps).drop (k * 2) := by have h := flat_drop encPart_length ps k; exact h
theorem ptcells_append (ps qs : List (Int × Int)) : ptcells (ps ++ qs) = ptcells ps ++ ptcells qs := flat_append ps qs
theorem ptcells_one (ps : List (Int × Int)) : ∀ u ∈ ptcells ps, u.oneCell' = true := flat_one (fun _ u hu => by simp [encPart] at hu; rcases hu with rfl | rfl <;> rfl) ps
theorem ptinfo : (Tryz.prog.info? 80).map (fun i => (i.zero, i.size, i.bytes)) = some (some (.agg #[.int .i64 0, .int .i64 0]), 2, 16) := by kernel_rfl
/-- The cells of element k, as a walk spells them. -/
theorem ptat {w : World} {A : Option Addr} {ps : List (Int × Int)} (h : At w A (ptcells ps)) {k : Nat} (hk : k < ps.length) :
    ∃ b o x0 x1, A = some ⟨b, o, none⟩ ∧ ps[k]? = some (x0, x1) ∧ w.cell? ⟨b, o + k * 2, none⟩ = some (.int .i64 x0) ∧ w.cell? ⟨b, o + k * 2 + 1, none⟩ = some (.int .i64 x1) := by
  obtain ⟨b, o, rfl, hc⟩ := h (by rw [ptcells_length]; omega)
  have hx : ps[k]? = some ps[k] := List.getElem?_eq_getElem hk
  exact ⟨b, o, ps[k].1, ps[k].2, rfl, hx, hc _ _ (flat_at encPart_length ps hx (i := 0) (by omega)), by rw [Nat.add_assoc]; exact hc _ _ (flat_at encPart_length ps hx (i := 1) (by omega))⟩

def pteq (ps qs : List (Int × Int)) : Bool := decide (ps = qs)
theorem pteq_rfl (ps : List (Int × Int)) : pteq ps ps = true := decide_eq_true rfl
/-- Alike up to place k. -/
def ptto (ps qs : List (Int × Int)) (k : Nat) : Prop := ∀ j, j < k → ps[j]? = qs[j]?
theorem ptto_zero (ps qs : List (Int × Int)) : ptto ps qs 0 := fun j hj => absurd hj (by omega)
theorem ptto_succ {ps qs : List (Int × Int)} {k : Nat} {x y : Int × Int} (h : ptto ps qs k) (hx : ps[k]? = some x) (hy : qs[k]? = some y) (he : x = y) : ptto ps qs (k + 1) := fun j hj => by
  by_cases e : j = k
  · rw [e, hx, hy, he]
  · exact h j (by omega)
theorem ptto_all {ps qs : List (Int × Int)} {k : Nat} (h : ptto ps qs k) (hp : ps.length ≤ k) (hq : qs.length ≤ k) : pteq ps qs = true :=
  decide_eq_true (List.ext_getElem? fun j => by
    by_cases e : j < k
    · exact h j e
    · rw [List.getElem?_eq_none (by omega), List.getElem?_eq_none (by omega)])
theorem pteq_at {ps qs : List (Int × Int)} {k : Nat} {x y : Int × Int} (hx : ps[k]? = some x) (hy : qs[k]? = some y) (he : x ≠ y) : pteq ps qs = false :=
  decide_eq_false fun e => he (by rw [e, hy] at hx; exact (Option.some.inj hx).symm)
theorem pteq_length {ps qs : List (Int × Int)} (h : ps.length ≠ qs.length) : pteq ps qs = false := decide_eq_false fun e => h (by rw [e])

def pteq1 (x y : Int × Int) : Bool := decide (x = y)





/-- The marks: numbers from k on. -/
def ptmarks (k : Int) (n : Nat) : List (Int × Int) := (List.range n).map fun (i : Nat) => (k + 2 * (i : Int), k + 2 * (i : Int) + 1)
theorem ptmarks_length (k : Int) (n : Nat) : (ptmarks k n).length = n := by simp [ptmarks]
theorem ptmarks_at (k : Int) (n i : Nat) (hi : i < n) : (ptmarks k n)[i]? = some ((k + 2 * (i : Int), k + 2 * (i : Int) + 1)) := by simp [ptmarks, hi]



end Go.Proofs.YtnpeojlhjbdjiaaGreatDoor
