/-
  No cell of these rows narrows 'for every input' (looked for: loops, veiled, ifaces, maps, wideKeys, modest, calm, conditions, laid).
  DERIVED. THE GIVEN ROWS OF THIS SEAT. 3 by the template 'for every input the law returns true; each argument reads behind the call as it read before'; 0 by the template 'total and deterministic' (their statements: YtjdnobihhkmmpaaTotals.lean).
  GIVEN WITH THE SEED: the statements are not yours to turn. If you find one false, say at which input.
  Laid BY PROGRAM, IN A SANDBOX (cutbox-rows.mjs): the forced cells as the released guide's own fill.sh prints them over the translation 2480a908886015d0… (all of the seat's roots in one cut). By AI agents, Wed Nov 11 2026. No macro, syntax, notation, axiom, sorry.
-/
import Derived.Test.YtjdnobihhkmmpaaChecked
import GoSem.Claim
import GoSem.ClaimJoined
import GoSem.ClaimMapViews
import Derived.JoinedTies
import Derived.KernelRfl
namespace Go.Proofs.Ytjdnobihhkmmpaa
/- THE CELL 'sum', in the pinned program and in every row, IS THE sha256 OF THE DUMP (.gsa) THAT YtjdnobihhkmmpaaProg.lean LOADS. Nothing in Lean hashes anything: it is a label: what it is worth is what the hold of that sum in a sandbox is worth. -/
noncomputable def Try.pinned : Pinned := { name := "ytjdnobihhkmmpaa", sum := "2480a908886015d03b5e85cb6e306ade9c5c43c1e01ba34f8924b11d9968d0cd", checked := Try.checked }
namespace Rows
def none {H : Type} : Left H := { results := [], args := [] }

/-- 'laws.FnTaint': WHATEVER THE INPUT: true; the input reads as it did. -/
def fnTaintSpec : ChangeSpec := { name := "fnTaint", fn := fun _ => fun
  | [d] => { results := [.lit (.bool true)], args := [d] }
  | _ => none }
def fnTaintRow : OpenClaim := { program := "ytjdnobihhkmmpaa", sum := "2480a908886015d03b5e85cb6e306ade9c5c43c1e01ba34f8924b11d9968d0cd", func := "loop.example/g00805/laws.FnTaint", spec := "fnTaint", unfollowed := true, recurses := true, apart := false }
def FnTaintSaid : Prop := fnTaintRow.holds Try.pinned (OpenSpec.ofChange fnTaintSpec)

/-- ITS FALSE NEIGHBOUR: 'it returns false'. Refute it at one input. -/
def fnTaintWrong : ChangeSpec := { name := "fnTaint", fn := fun _ => fun
  | [d] => { results := [.lit (.bool false)], args := [d] }
  | _ => none }
def FnTaintWrongFalsely : Prop := fnTaintRow.holds Try.pinned (OpenSpec.ofChange fnTaintWrong)

/-- 'laws.FnExactStars': WHATEVER THE INPUT: true; the input reads as it did. -/
def fnExactStarsSpec : ChangeSpec := { name := "fnExactStars", fn := fun _ => fun
  | [d] => { results := [.lit (.bool true)], args := [d] }
  | _ => none }
def fnExactStarsRow : OpenClaim := { program := "ytjdnobihhkmmpaa", sum := "2480a908886015d03b5e85cb6e306ade9c5c43c1e01ba34f8924b11d9968d0cd", func := "loop.example/g00805/laws.FnExactStars", spec := "fnExactStars", unfollowed := true, recurses := true, apart := false }
def FnExactStarsSaid : Prop := fnExactStarsRow.holds Try.pinned (OpenSpec.ofChange fnExactStarsSpec)

/-- ITS FALSE NEIGHBOUR: 'it returns false'. Refute it at one input. -/
def fnExactStarsWrong : ChangeSpec := { name := "fnExactStars", fn := fun _ => fun
  | [d] => { results := [.lit (.bool false)], args := [d] }
  | _ => none }
def FnExactStarsWrongFalsely : Prop := fnExactStarsRow.holds Try.pinned (OpenSpec.ofChange fnExactStarsWrong)

/-- 'laws.FnExactTainted': WHATEVER THE INPUT: true; the input reads as it did. -/
def fnExactTaintedSpec : ChangeSpec := { name := "fnExactTainted", fn := fun _ => fun
  | [d1, d2, d3] => { results := [.lit (.bool true)], args := [d1, d2, d3] }
  | _ => none }
def fnExactTaintedRow : OpenClaim := { program := "ytjdnobihhkmmpaa", sum := "2480a908886015d03b5e85cb6e306ade9c5c43c1e01ba34f8924b11d9968d0cd", func := "loop.example/g00805/laws.FnExactTainted", spec := "fnExactTainted", unfollowed := true, recurses := true, apart := false }
def FnExactTaintedSaid : Prop := fnExactTaintedRow.holds Try.pinned (OpenSpec.ofChange fnExactTaintedSpec)

/-- ITS FALSE NEIGHBOUR: 'it returns false'. Refute it at one input. -/
def fnExactTaintedWrong : ChangeSpec := { name := "fnExactTainted", fn := fun _ => fun
  | [d1, d2, d3] => { results := [.lit (.bool false)], args := [d1, d2, d3] }
  | _ => none }
def FnExactTaintedWrongFalsely : Prop := fnExactTaintedRow.holds Try.pinned (OpenSpec.ofChange fnExactTaintedWrong)

/- THE SECOND FORM. 'bulk': how many values and letters a reading holds, each counted each time it is reached (what is shared counts as often as it is met; a slice's spare places count too). A statement '..UptoSaid' is the law's where the arguments, and the package variables that the reading takes, are together of bulk at most 1048576: NARROWER than '..Said'. Prove '..Said' where nothing that the law and all that it calls make is longer than what came in: it says more and counts as full. Else prove '..UptoSaid'. A law counts once. -/
mutual
def uptoBulk {H : Type} : DataW H → Nat
  | .lit (.string bytes) => bytes.length + 1
  | .lit _ => 1
  | .nil => 1
  | .ptr d => uptoBulk d + 1
  | .slice elems spare => uptoBulkAll elems + uptoBulkAll spare + 1
  | .agg parts => uptoBulkAll parts + 1
  | .iface _ d => uptoBulk d + 1
  | .map entries => uptoBulkEntries entries + 1
  | .held _ => 1
def uptoBulkAll {H : Type} : List (DataW H) → Nat
  | [] => 0
  | d :: r => uptoBulk d + uptoBulkAll r
def uptoBulkEntries {H : Type} : List (Lit × DataW H) → Nat
  | [] => 0
  | x :: r => uptoBulkEntry x + uptoBulkEntries r
def uptoBulkEntry {H : Type} : Lit × DataW H → Nat
  | (.string bytes, d) => bytes.length + uptoBulk d + 1
  | (_, d) => uptoBulk d + 1
 end
def uptoSmall : (H : Type) → List (DataW H) → Bool := fun _ ds => decide (uptoBulkAll ds ≤ 1048576)
def OpenSpec.upto (s : _root_.Go.ChangeSpec) : _root_.Go.OpenSpec := { _root_.Go.OpenSpec.ofChange s with cond := some uptoSmall }

/-- 'laws.FnTaint', WHERE WHAT IT READS IS OF BULK AT MOST 1048576: true; the input reads as it did. -/
def fnTaintUptoRow : OpenClaim := { program := "ytjdnobihhkmmpaa", sum := "2480a908886015d03b5e85cb6e306ade9c5c43c1e01ba34f8924b11d9968d0cd", func := "loop.example/g00805/laws.FnTaint", spec := "fnTaint", unfollowed := true, recurses := true, apart := false, narrowed := true }
def FnTaintUptoSaid : Prop := fnTaintUptoRow.holds Try.pinned (OpenSpec.upto fnTaintSpec)

/-- 'laws.FnExactStars', WHERE WHAT IT READS IS OF BULK AT MOST 1048576: true; the input reads as it did. -/
def fnExactStarsUptoRow : OpenClaim := { program := "ytjdnobihhkmmpaa", sum := "2480a908886015d03b5e85cb6e306ade9c5c43c1e01ba34f8924b11d9968d0cd", func := "loop.example/g00805/laws.FnExactStars", spec := "fnExactStars", unfollowed := true, recurses := true, apart := false, narrowed := true }
def FnExactStarsUptoSaid : Prop := fnExactStarsUptoRow.holds Try.pinned (OpenSpec.upto fnExactStarsSpec)

/-- 'laws.FnExactTainted', WHERE WHAT IT READS IS OF BULK AT MOST 1048576: true; the input reads as it did. -/
def fnExactTaintedUptoRow : OpenClaim := { program := "ytjdnobihhkmmpaa", sum := "2480a908886015d03b5e85cb6e306ade9c5c43c1e01ba34f8924b11d9968d0cd", func := "loop.example/g00805/laws.FnExactTainted", spec := "fnExactTainted", unfollowed := true, recurses := true, apart := false, narrowed := true }
def FnExactTaintedUptoSaid : Prop := fnExactTaintedUptoRow.holds Try.pinned (OpenSpec.upto fnExactTaintedSpec)

end Rows
end Go.Proofs.Ytjdnobihhkmmpaa
