/-
  Rows of labels in memory, each read.
-/
import Derived.Test.YtedaknjjcdlpnaaDoorLab
import Derived.Test.YtedaknjjcdlpnaaDoorMem
import Derived.Test.YtedaknjjcdlpnaaDoorPure
namespace Go.Proofs.YtedaknjjcdlpnaaDoor
set_option maxRecDepth 100000
open Go.RowKit

/-- A label as it stands in a row. -/
structure LB where
  l : Lab
  A : Option Addr
  n : Nat
  c : Nat
def encLB (x : LB) : List Value := [.int .i64 x.l.base, .slice x.A x.n x.c]
theorem encLB_length (x : LB) : (encLB x).length = 2 := rfl
def lbcells (xs : List LB) : List Value := flat encLB xs
theorem lbcells_length (xs : List LB) : (lbcells xs).length = xs.length * 2 := flat_length encLB_length xs
theorem lbcells_append (xs ys : List LB) : lbcells (xs ++ ys) = lbcells xs ++ lbcells ys := flat_append xs ys
theorem lbcells_one (xs : List LB) : ∀ u ∈ lbcells xs, u.oneCell' = true := flat_one (fun _ u hu => by simp [encLB] at hu; rcases hu with rfl | rfl <;> rfl) xs
theorem lbinfo : (Tryd.prog.info? 26).map (fun i => (i.zero, i.size, i.bytes)) = some (some (.agg #[.int .i64 0, .slice none 0 0]), 2, 32) := by kernel_rfl
theorem elemLab : Elem Tryd.prog 71 26 2 32 := .of_info lbinfo Tryd.underlying71 rfl (by omega)
theorem lbat {w : World} {A : Option Addr} {xs : List LB} (h : At w A (lbcells xs)) {k : Nat} (hk : k < xs.length) :
    ∃ b o x, A = some ⟨b, o, none⟩ ∧ xs[k]? = some x ∧ w.cell? ⟨b, o + k * 2, none⟩ = some (.int .i64 x.l.base) ∧ w.cell? ⟨b, o + k * 2 + 1, none⟩ = some (.slice x.A x.n x.c) := by
  obtain ⟨b, o, rfl, hc⟩ := h (by rw [lbcells_length]; omega)
  have hx : xs[k]? = some xs[k] := List.getElem?_eq_getElem hk
  exact ⟨b, o, xs[k], rfl, hx, hc _ _ (flat_at encLB_length xs hx (i := 0) (by omega)), by rw [Nat.add_assoc]; exact hc _ _ (flat_at encLB_length xs hx (i := 1) (by omega))⟩
/-- Each of them can be read. -/
def LBs (w : World) (xs : List LB) : Prop := ∀ x ∈ xs, RdLab w (.agg #[.int .i64 x.l.base, .slice x.A x.n x.c]) x.l
theorem LBs.below {w w' : World} {xs : List LB} (h : LBs w xs) (hb : Below w.heap.size w w') : LBs w' xs := fun x hx => (h x hx).below hb
theorem LBs.at {w : World} {xs : List LB} (h : LBs w xs) {k : Nat} {x : LB} (hx : xs[k]? = some x) : RdLab w (.agg #[.int .i64 x.l.base, .slice x.A x.n x.c]) x.l := h x (List.mem_of_getElem? hx)
theorem LBs.append {w : World} {xs ys : List LB} (h : LBs w xs) (k : LBs w ys) : LBs w (xs ++ ys) := fun x hx => by
  rcases List.mem_append.1 hx with q | q
  · exact h x q
  · exact k x q
theorem LBs.nil (w : World) : LBs w [] := fun _ h => by cases h
theorem LBs.cons {w : World} {x : LB} {xs : List LB} (h : RdLab w (.agg #[.int .i64 x.l.base, .slice x.A x.n x.c]) x.l) (k : LBs w xs) : LBs w (x :: xs) := fun y hy => by
  rcases List.mem_cons.1 hy with q | q
  · subst q; exact h
  · exact k y q
/-- All of a list, from a place on. -/
def AllL {α : Type} (p : α → Bool) (xs : List α) (k : Nat) : Prop := xs.all p = (xs.drop k).all p
section
variable {α : Type} {p : α → Bool} {xs : List α} {k : Nat} {x : α}
theorem AllL.zero (p : α → Bool) (xs : List α) : AllL p xs 0 := rfl
theorem AllL.succ (h : AllL p xs k) (hx : xs[k]? = some x) (hp : p x = true) : AllL p xs (k + 1) := by
  unfold AllL at h ⊢; rw [h, drop_at hx]; simp [hp]
theorem AllL.bad (h : AllL p xs k) (hx : xs[k]? = some x) (hp : p x = false) : xs.all p = false := by
  unfold AllL at h; rw [h, drop_at hx]; simp [hp]
theorem AllL.done (h : AllL p xs k) (hk : xs.length ≤ k) : xs.all p = true := by
  unfold AllL at h; rw [h, List.drop_eq_nil_of_le hk]; rfl
end
end Go.Proofs.YtedaknjjcdlpnaaDoor
