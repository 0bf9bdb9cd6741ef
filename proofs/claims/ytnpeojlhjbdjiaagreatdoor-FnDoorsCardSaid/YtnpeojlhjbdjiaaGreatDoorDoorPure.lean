/-
  Messages and doors as plain data: right or not; a share. No program, no memory.
-/
import Derived.Test.YtnpeojlhjbdjiaaGreatDoorDHelp
import Derived.Test.YtnpeojlhjbdjiaaGreatDoorTermsPure
import Derived.Test.YtnpeojlhjbdjiaaGreatDoorHandle
namespace Go.Proofs.YtnpeojlhjbdjiaaGreatDoor
set_option maxRecDepth 100000

def msgOk (m : Ms) : Bool := inR m.frm 0 3 && (inR m.value 0 999999 && (labOk m.eff && termsOk m.terms))
/-- How many are from there. -/
def share (q : List Ms) (g : Int) : Int := ((q.filter fun m => decide (m.frm = g)).length : Nat)
theorem share_pos (q : List Ms) (g : Int) : 0 ≤ share q g := by unfold share; omega
theorem share_le (q : List Ms) (g : Int) : share q g ≤ q.length := by unfold share; have := List.length_filter_le (fun m : Ms => decide (m.frm = g)) q; omega
theorem share_yes {q : List Ms} {k : Nat} {x : Ms} {g : Int} (hx : q[k]? = some x) (he : x.frm = g) : share (q.take (k + 1)) g = share (q.take k) g + 1 := by
  unfold share; rw [take_at hx, List.filter_append]; simp [he]
theorem share_no {q : List Ms} {k : Nat} {x : Ms} {g : Int} (hx : q[k]? = some x) (he : x.frm ≠ g) : share (q.take (k + 1)) g = share (q.take k) g := by
  unfold share; rw [take_at hx, List.filter_append]; simp [he]
def eachOk (q : List Ms) (m : Ms) : Bool := msgOk m && decide (share q m.frm ≤ 3)
def doorOk (d : Door) : Bool := decide (0 ≤ makerOf d.handle) && (labOk d.label && (decide (d.queue.length ≤ 12) && d.queue.all (eachOk d.queue)))
end Go.Proofs.YtnpeojlhjbdjiaaGreatDoor
