/-
  A door in the making: its queue's row, one message more.
-/
import Derived.Test.YtnpeojlhjbdjiaaGreatDoorDHelp
import Derived.Test.YtnpeojlhjbdjiaaGreatDoorDat
namespace Go.Proofs.YtnpeojlhjbdjiaaGreatDoor
set_option maxRecDepth 100000
open Go.RowKit

theorem rd_one {w : World} {d : Dt} {v : Value} (h : Rds w [d] [v]) : Rd w d v := by
  simp only [Rds, List.cons.injEq] at h
  obtain ⟨u, vs, ⟨rfl, rfl⟩, h1, -⟩ := h
  exact h1
theorem len3 {us : List Value} (h : us.length = 3) : ∃ a b c, us = [a, b, c] :=
  match us, h with
  | [a, b, c], _ => ⟨a, b, c, rfl⟩
theorem elemMs : Elem Tryz.prog 27 35 12 176 := .of_info mssinfo Tryz.underlying27 rfl (by omega)
/-- A door in the making: one message more. -/
theorem Lie.door {old wr : World} {g : Nat} {a : Int} {l : Lab} {q : List Ms} {vs : List Value} (h : Lie old g (dtDoor ⟨a, l, q⟩) wr vs) :
    ∃ B m d A n c cs, vs = [.int .i64 a, .int .i64 l.base, .slice B m d, .slice A n c] ∧ wr.ownsRow old.heap.size 35 12 (.slice A n c) n cs ∧ n = q.length ∧ (Value.slice A n c).ownBlock ≠ some g ∧
      ∀ (y : Ms) (w2 w' : World) (v' : Value) (n' : Nat) (ys : List Value), Below wr.heap.size wr w2 → Own wr.heap.size w2 (dtMs y) ys → Apped old.heap.size 35 12 (.slice A n c) n' (cs ++ ys) w2 v' w' →
        Lie old g (dtDoor ⟨a, l, q ++ [y]⟩) (w'.setCell ⟨g, 3, none⟩ v') [.int .i64 a, .int .i64 l.base, .slice B m d, v'] := by
  obtain ⟨B, m, d, A, n0, c, rfl⟩ := shp_door h.rd
  obtain ⟨u1, v, u2, n, cs, he, hl, ho, hn, hvg, hg⟩ := Lie.grow (pre := .num a :: dtLab l) (es := q.flatMap dtMs) (post := []) (sz := 12) (t := 35) h
  obtain ⟨a1, a2, a3, rfl⟩ := len3 hl
  · simp only [List.cons_append, List.nil_append, List.cons.injEq] at he
    obtain ⟨rfl, rfl, rfl, rfl, rfl⟩ := he
    obtain ⟨A', c', hs, -⟩ := own_at ho
    simp only [Value.slice.injEq] at hs
    obtain ⟨rfl, rfl, rfl⟩ := hs
    refine ⟨B, m, d, A, n0, c, cs, rfl, ho, ?_, hvg, ?_⟩
    · rw [flatMap_len dtMs_len] at hn; omega
    · intro y w2 w' v' n' ys hb hy hap
      have := hg hb hy hap
      have e : (q ++ [y]).flatMap dtMs = q.flatMap dtMs ++ dtMs y := by simp
      show Lie old g ((.num a :: dtLab l) ++ .row 12 35 ((q ++ [y]).flatMap dtMs) :: []) _ _
      rw [e]
      exact this
end Go.Proofs.YtnpeojlhjbdjiaaGreatDoor
