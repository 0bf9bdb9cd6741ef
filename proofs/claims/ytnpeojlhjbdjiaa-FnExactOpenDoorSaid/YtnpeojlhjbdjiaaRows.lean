/-
  No cell of these rows narrows 'for every input' (looked for: loops, veiled, ifaces, maps, wideKeys, modest, calm, conditions, laid).
  DERIVED. THE GIVEN ROWS OF THIS SEAT. 4 by the template 'for every input the law returns true; each argument reads behind the call as it read before'; 0 by the template 'total and deterministic' (their statements: YtnpeojlhjbdjiaaTotals.lean).
  GIVEN WITH THE SEED: the statements are not yours to turn. If you find one false, say at which input.
  Laid BY PROGRAM, IN A SANDBOX (cutbox-rows.mjs): the forced cells as the released guide's own fill.sh prints them over the translation fbedd4c19c78ea69… (all of the seat's roots in one cut). By AI agents, Wed Nov 11 2026. No macro, syntax, notation, axiom, sorry.
-/
import Derived.Test.YtnpeojlhjbdjiaaChecked
import GoSem.Claim
import GoSem.ClaimJoined
import GoSem.ClaimMapViews
import Derived.JoinedTies
import Derived.KernelRfl
namespace Go.Proofs.Ytnpeojlhjbdjiaa
/- THE CELL 'sum', in the pinned program and in every row, IS THE sha256 OF THE DUMP (.gsa) THAT YtnpeojlhjbdjiaaProg.lean LOADS. Nothing in Lean hashes anything: it is a label: what it is worth is what the hold of that sum in a sandbox is worth. -/
noncomputable def Try.pinned : Pinned := { name := "ytnpeojlhjbdjiaa", sum := "fbedd4c19c78ea69d7a92fcb29794e37e39e22640eb1ddb697605e7fc7979074", checked := Try.checked }
namespace Rows
def none {H : Type} : Left H := { results := [], args := [] }

/-- 'laws.FnExactMsgOk': WHATEVER THE INPUT: true; the input reads as it did. -/
def fnExactMsgOkSpec : ChangeSpec := { name := "fnExactMsgOk", fn := fun _ => fun
  | [d] => { results := [.lit (.bool true)], args := [d] }
  | _ => none }
def fnExactMsgOkRow : OpenClaim := { program := "ytnpeojlhjbdjiaa", sum := "fbedd4c19c78ea69d7a92fcb29794e37e39e22640eb1ddb697605e7fc7979074", func := "loop.example/g00805/laws.FnExactMsgOk", spec := "fnExactMsgOk", unfollowed := true, recurses := true, apart := false }
def FnExactMsgOkSaid : Prop := fnExactMsgOkRow.holds Try.pinned (OpenSpec.ofChange fnExactMsgOkSpec)

/-- ITS FALSE NEIGHBOUR: 'it returns false'. Refute it at one input. -/
def fnExactMsgOkWrong : ChangeSpec := { name := "fnExactMsgOk", fn := fun _ => fun
  | [d] => { results := [.lit (.bool false)], args := [d] }
  | _ => none }
def FnExactMsgOkWrongFalsely : Prop := fnExactMsgOkRow.holds Try.pinned (OpenSpec.ofChange fnExactMsgOkWrong)

/-- 'laws.FnExactDoorOk': WHATEVER THE INPUT: true; the input reads as it did. -/
def fnExactDoorOkSpec : ChangeSpec := { name := "fnExactDoorOk", fn := fun _ => fun
  | [d] => { results := [.lit (.bool true)], args := [d] }
  | _ => none }
def fnExactDoorOkRow : OpenClaim := { program := "ytnpeojlhjbdjiaa", sum := "fbedd4c19c78ea69d7a92fcb29794e37e39e22640eb1ddb697605e7fc7979074", func := "loop.example/g00805/laws.FnExactDoorOk", spec := "fnExactDoorOk", unfollowed := true, recurses := true, apart := false }
def FnExactDoorOkSaid : Prop := fnExactDoorOkRow.holds Try.pinned (OpenSpec.ofChange fnExactDoorOkSpec)

/-- ITS FALSE NEIGHBOUR: 'it returns false'. Refute it at one input. -/
def fnExactDoorOkWrong : ChangeSpec := { name := "fnExactDoorOk", fn := fun _ => fun
  | [d] => { results := [.lit (.bool false)], args := [d] }
  | _ => none }
def FnExactDoorOkWrongFalsely : Prop := fnExactDoorOkRow.holds Try.pinned (OpenSpec.ofChange fnExactDoorOkWrong)

/-- 'laws.FnExactOpenDoor': WHATEVER THE INPUT: true; the input reads as it did. -/
def fnExactOpenDoorSpec : ChangeSpec := { name := "fnExactOpenDoor", fn := fun _ => fun
  | [d] => { results := [.lit (.bool true)], args := [d] }
  | _ => none }
def fnExactOpenDoorRow : OpenClaim := { program := "ytnpeojlhjbdjiaa", sum := "fbedd4c19c78ea69d7a92fcb29794e37e39e22640eb1ddb697605e7fc7979074", func := "loop.example/g00805/laws.FnExactOpenDoor", spec := "fnExactOpenDoor", apart := false }
def FnExactOpenDoorSaid : Prop := fnExactOpenDoorRow.holds Try.pinned (OpenSpec.ofChange fnExactOpenDoorSpec)

/-- ITS FALSE NEIGHBOUR: 'it returns false'. Refute it at one input. -/
def fnExactOpenDoorWrong : ChangeSpec := { name := "fnExactOpenDoor", fn := fun _ => fun
  | [d] => { results := [.lit (.bool false)], args := [d] }
  | _ => none }
def FnExactOpenDoorWrongFalsely : Prop := fnExactOpenDoorRow.holds Try.pinned (OpenSpec.ofChange fnExactOpenDoorWrong)

/-- 'laws.FnExactShutDoor': WHATEVER THE INPUT: true; the input reads as it did. -/
def fnExactShutDoorSpec : ChangeSpec := { name := "fnExactShutDoor", fn := fun _ => fun
  | [d] => { results := [.lit (.bool true)], args := [d] }
  | _ => none }
def fnExactShutDoorRow : OpenClaim := { program := "ytnpeojlhjbdjiaa", sum := "fbedd4c19c78ea69d7a92fcb29794e37e39e22640eb1ddb697605e7fc7979074", func := "loop.example/g00805/laws.FnExactShutDoor", spec := "fnExactShutDoor", unfollowed := true, recurses := true, apart := false }
def FnExactShutDoorSaid : Prop := fnExactShutDoorRow.holds Try.pinned (OpenSpec.ofChange fnExactShutDoorSpec)

/-- ITS FALSE NEIGHBOUR: 'it returns false'. Refute it at one input. -/
def fnExactShutDoorWrong : ChangeSpec := { name := "fnExactShutDoor", fn := fun _ => fun
  | [d] => { results := [.lit (.bool false)], args := [d] }
  | _ => none }
def FnExactShutDoorWrongFalsely : Prop := fnExactShutDoorRow.holds Try.pinned (OpenSpec.ofChange fnExactShutDoorWrong)

/- THE SECOND FORM. 'bulk': how many values and letters a reading holds, each counted each time it is reached (what is shared counts as often as it is met; a slice's spare places count too). A statement '..UptoSaid' is the law's where the arguments, and the package variables that the reading takes, are together of bulk at most 1048576: NARROWER than '..Said'. Prove '..Said' where nothing that the law and all that it calls make is longer than what came in: it says more and counts as full. Else prove '..UptoSaid'. A law counts once. -/
mutual
def uptoBulk {H : Type} : DataW H → Nat
  | .lit (.string bytes) => bytes.length + 1
  | .lit _ => 1
  | .nil => 1
  | .ptr d => uptoBulk d + 1
  | .slice elems spare => uptoBulkAll elems + uptoBulkAll spare + 1
  | .agg parts => uptoBulkAll parts + 1
  | .iface _ d => uptoBulk d + 1
  | .map entries => uptoBulkEntries entries + 1
  | .held _ => 1
def uptoBulkAll {H : Type} : List (DataW H) → Nat
  | [] => 0
  | d :: r => uptoBulk d + uptoBulkAll r
def uptoBulkEntries {H : Type} : List (Lit × DataW H) → Nat
  | [] => 0
  | x :: r => uptoBulkEntry x + uptoBulkEntries r
def uptoBulkEntry {H : Type} : Lit × DataW H → Nat
  | (.string bytes, d) => bytes.length + uptoBulk d + 1
  | (_, d) => uptoBulk d + 1
 end
def uptoSmall : (H : Type) → List (DataW H) → Bool := fun _ ds => decide (uptoBulkAll ds ≤ 1048576)
def OpenSpec.upto (s : _root_.Go.ChangeSpec) : _root_.Go.OpenSpec := { _root_.Go.OpenSpec.ofChange s with cond := some uptoSmall }

/-- 'laws.FnExactMsgOk', WHERE WHAT IT READS IS OF BULK AT MOST 1048576: true; the input reads as it did. -/
def fnExactMsgOkUptoRow : OpenClaim := { program := "ytnpeojlhjbdjiaa", sum := "fbedd4c19c78ea69d7a92fcb29794e37e39e22640eb1ddb697605e7fc7979074", func := "loop.example/g00805/laws.FnExactMsgOk", spec := "fnExactMsgOk", unfollowed := true, recurses := true, apart := false, narrowed := true }
def FnExactMsgOkUptoSaid : Prop := fnExactMsgOkUptoRow.holds Try.pinned (OpenSpec.upto fnExactMsgOkSpec)

/-- 'laws.FnExactDoorOk', WHERE WHAT IT READS IS OF BULK AT MOST 1048576: true; the input reads as it did. -/
def fnExactDoorOkUptoRow : OpenClaim := { program := "ytnpeojlhjbdjiaa", sum := "fbedd4c19c78ea69d7a92fcb29794e37e39e22640eb1ddb697605e7fc7979074", func := "loop.example/g00805/laws.FnExactDoorOk", spec := "fnExactDoorOk", unfollowed := true, recurses := true, apart := false, narrowed := true }
def FnExactDoorOkUptoSaid : Prop := fnExactDoorOkUptoRow.holds Try.pinned (OpenSpec.upto fnExactDoorOkSpec)

/-- 'laws.FnExactOpenDoor', WHERE WHAT IT READS IS OF BULK AT MOST 1048576: true; the input reads as it did. -/
def fnExactOpenDoorUptoRow : OpenClaim := { program := "ytnpeojlhjbdjiaa", sum := "fbedd4c19c78ea69d7a92fcb29794e37e39e22640eb1ddb697605e7fc7979074", func := "loop.example/g00805/laws.FnExactOpenDoor", spec := "fnExactOpenDoor", apart := false, narrowed := true }
def FnExactOpenDoorUptoSaid : Prop := fnExactOpenDoorUptoRow.holds Try.pinned (OpenSpec.upto fnExactOpenDoorSpec)

/-- 'laws.FnExactShutDoor', WHERE WHAT IT READS IS OF BULK AT MOST 1048576: true; the input reads as it did. -/
def fnExactShutDoorUptoRow : OpenClaim := { program := "ytnpeojlhjbdjiaa", sum := "fbedd4c19c78ea69d7a92fcb29794e37e39e22640eb1ddb697605e7fc7979074", func := "loop.example/g00805/laws.FnExactShutDoor", spec := "fnExactShutDoor", unfollowed := true, recurses := true, apart := false, narrowed := true }
def FnExactShutDoorUptoSaid : Prop := fnExactShutDoorUptoRow.holds Try.pinned (OpenSpec.upto fnExactShutDoorSpec)

end Rows
end Go.Proofs.Ytnpeojlhjbdjiaa
