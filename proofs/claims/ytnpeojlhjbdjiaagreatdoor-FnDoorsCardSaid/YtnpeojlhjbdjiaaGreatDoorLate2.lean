/-
  Guarded operations under the late law: one that is carried out, one that is not. No program in sight.
-/
import Derived.Test.YtnpeojlhjbdjiaaGreatDoorMem
namespace Go.Proofs.YtnpeojlhjbdjiaaGreatDoor
set_option maxRecDepth 100000
open Go
/-- An operation whose guard says no is not carried out. -/
theorem yields_skip {P : Program} {ops : Array Oper} {S : World → Prop} {o : Oper} {a : Act} {j s : Nat} {b : Bool} {v : Value} (hg : o.guard = some (j, b)) (hd : (ops[j]?).bind (·.dst) = some s) (hs : a.tmps[s]? = some v) (hv : v ≠ .bool b) : YieldsIf P ops S o undef a := by
  refine .inr ⟨?_, rfl⟩
  unfold Region.wanted yielded
  rw [hg]
  simp only [hd, Option.bind_some, hs]
  cases v <;> first | rfl | (rename_i c; cases b <;> cases c <;> first | rfl | exact absurd rfl hv)
/-- An operation whose guard says yes is. -/
theorem yields_take {P : Program} {ops : Array Oper} {S : World → Prop} {o : Oper} {a : Act} {j s : Nat} {b : Bool} {v : Value} (hg : o.guard = some (j, b)) (hd : (ops[j]?).bind (·.dst) = some s) (hs : a.tmps[s]? = some (.bool b)) (h : ∀ w, S w → (execOp a.eval o).run P w = .ok (.value v) w) : YieldsIf P ops S o v a := by
  refine .inl ⟨?_, h⟩
  unfold Region.wanted yielded
  rw [hg]
  simp only [hd, Option.bind_some, hs]
  cases b <;> rfl

section
variable {P : Program} {ops : Array Oper} {Q : Exit → Act → World → Prop} {md : Region.Mode} {S : World → Prop} {n : Nat}
/-- An early one, its slot named. -/
theorem WpLate.take2 {i d : Nat} {oi : Oper} {v : Value} {f : Nat} {listed : Array Bool} {a : Act} {w : World} (hi : ops[i]? = some oi) (hd : oi.dst = some d) (hl : ((List.range ops.size).all fun j => decide (j < n) || waitsB md ops i ops.size j) = true) (hc : closedB md ops listed = true) (hs : Region.noSelect ops = true) (hf : Region.free md ops listed i = true) (hr : (Region.ready md ops listed).contains i = true)
    (hQ : ∀ c a w, Q (.panic c) (a.put oi.dst v) w → Q (.panic c) a w) (hy : YieldsIf P ops S oi v a) (hS : S w) (h : WpLate P md ops Q S n f (listed.setIfInBounds i true) { a with tmps := a.tmps.setIfInBounds d v } w) : WpLate P md ops Q S n (f + 1) listed a w :=
  WpLate.take hi hl hc hs hf hr hQ hy hS (by rw [hd]; exact h)
end
end Go.Proofs.YtnpeojlhjbdjiaaGreatDoor
