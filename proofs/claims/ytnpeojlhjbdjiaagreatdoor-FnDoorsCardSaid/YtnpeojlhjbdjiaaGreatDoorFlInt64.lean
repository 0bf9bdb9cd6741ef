/-
  The laws' own helpers on []int64: equality, copies, sizes, marks.
-/
import Derived.Test.YtnpeojlhjbdjiaaGreatDoorBase
import Derived.Test.YtnpeojlhjbdjiaaGreatDoorMem
import Derived.StillTailTactics
import Derived.Deep.QuietTactic
import Derived.BigQuiet
namespace Go.Proofs.YtnpeojlhjbdjiaaGreatDoor
set_option maxRecDepth 100000
open Go.RowKit

/-- The cells of an element, of a list. -/
def encInt64 (p : Int) : List Value := [.int .i64 p]
theorem encInt64_length (p : Int) : (encInt64 p).length = 1 := rfl
def nmcells (ps : List (Int)) : List Value := flat encInt64 ps
theorem nmcells_length (ps : List (Int)) : (nmcells ps).length = ps.length * 1 := flat_length encInt64_length ps
theorem nmcells_take (ps : List (Int)) (k : Nat) : nmcells (ps.take k) = (nmcells ps).take (k) := by have h := flat_take encInt64_length ps k; rwa [Nat.mul_one] at h
theorem nmcells_drop (ps : List (Int)) (k : Nat) : nmcells (ps.drop k) = (nmcells ps).drop (k) := by have h := flat_drop encInt64_length ps k; rwa [Nat.mul_one] at h
theorem nmcells_append (ps qs : List (Int)) : nmcells (ps ++ qs) = nmcells ps ++ nmcells qs := flat_append ps qs
theorem nmcells_one (ps : List (Int)) : ∀ u ∈ nmcells ps, u.oneCell' = true := flat_one (fun _ u hu => by simp [encInt64] at hu; subst hu; rfl) ps
theorem nminfo : (Tryz.prog.info? 2).map (fun i => (i.zero, i.size, i.bytes)) = some (some (.int .i64 0), 1, 8) := by kernel_rfl
/-- The cells of element k, as a walk spells them. -/
theorem nmat {w : World} {A : Option Addr} {ps : List (Int)} (h : At w A (nmcells ps)) {k : Nat} (hk : k < ps.length) :
    ∃ b o x0, A = some ⟨b, o, none⟩ ∧ ps[k]? = some x0 ∧ w.cell? ⟨b, o + k, none⟩ = some (.int .i64 x0) := by
  obtain ⟨b, o, rfl, hc⟩ := h (by rw [nmcells_length]; omega)
  have hx : ps[k]? = some ps[k] := List.getElem?_eq_getElem hk
  exact ⟨b, o, _, rfl, hx, by have := flat_at encInt64_length ps hx (i := 0) (by omega); simp only [Nat.mul_one, Nat.add_zero] at this; exact hc _ _ this⟩

def nmeq (ps qs : List (Int)) : Bool := decide (ps = qs)
theorem nmeq_rfl (ps : List (Int)) : nmeq ps ps = true := decide_eq_true rfl
/-- Alike up to place k. -/
def nmto (ps qs : List (Int)) (k : Nat) : Prop := ∀ j, j < k → ps[j]? = qs[j]?
theorem nmto_zero (ps qs : List (Int)) : nmto ps qs 0 := fun j hj => absurd hj (by omega)
theorem nmto_succ {ps qs : List (Int)} {k : Nat} {x y : Int} (h : nmto ps qs k) (hx : ps[k]? = some x) (hy : qs[k]? = some y) (he : x = y) : nmto ps qs (k + 1) := fun j hj => by
  by_cases e : j = k
  · rw [e, hx, hy, he]
  · exact h j (by omega)
theorem nmto_all {ps qs : List (Int)} {k : Nat} (h : nmto ps qs k) (hp : ps.length ≤ k) (hq : qs.length ≤ k) : nmeq ps qs = true :=
  decide_eq_true (List.ext_getElem? fun j => by
    by_cases e : j < k
    · exact h j e
    · rw [List.getElem?_eq_none (by omega), List.getElem?_eq_none (by omega)])
theorem nmeq_at {ps qs : List (Int)} {k : Nat} {x y : Int} (hx : ps[k]? = some x) (hy : qs[k]? = some y) (he : x ≠ y) : nmeq ps qs = false :=
  decide_eq_false fun e => he (by rw [e, hy] at hx; exact (Option.some.inj hx).symm)
theorem nmeq_length {ps qs : List (Int)} (h : ps.length ≠ qs.length) : nmeq ps qs = false := decide_eq_false fun e => h (by rw [e])




/-- The marks: numbers from k on. -/
def nmmarks (k : Int) (n : Nat) : List (Int) := (List.range n).map fun (i : Nat) => k + (i : Int)
theorem nmmarks_length (k : Int) (n : Nat) : (nmmarks k n).length = n := by simp [nmmarks]
theorem nmmarks_at (k : Int) (n i : Nat) (hi : i < n) : (nmmarks k n)[i]? = some (k + (i : Int)) := by simp [nmmarks, hi]



end Go.Proofs.YtnpeojlhjbdjiaaGreatDoor
