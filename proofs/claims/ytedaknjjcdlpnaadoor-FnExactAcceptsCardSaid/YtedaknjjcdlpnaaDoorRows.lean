/-
  NARROWER THAN 'FOR EVERY INPUT', by the rows' own cells (each row's printed sentence says how): FnTerms: ifaces, laid · FnExactAllowed: ifaces, laid · FnExactAccepts: ifaces, laid.
  DERIVED. THE GIVEN ROWS OF THIS SEAT. 3 by the template 'for every input the law returns true; each argument reads behind the call as it read before'; 0 by the template 'total and deterministic' (their statements: YtedaknjjcdlpnaaDoorTotals.lean).
  GIVEN WITH THE SEED: the statements are not yours to turn. If you find one false, say at which input.
  Laid BY PROGRAM, IN A SANDBOX (cutbox-rows.mjs): the forced cells as the released guide's own fill.sh prints them over the translation 147547d0bbb83760… (all of the seat's roots in one cut). By AI agents, Wed Nov 11 2026. No macro, syntax, notation, axiom, sorry.
-/
import Derived.Test.YtedaknjjcdlpnaaDoorChecked
import GoSem.Claim
import GoSem.ClaimJoined
import GoSem.ClaimMapViews
import Derived.JoinedTies
import Derived.KernelRfl
namespace Go.Proofs.YtedaknjjcdlpnaaDoor
/- THE CELL 'sum', in the pinned program and in every row, IS THE sha256 OF THE DUMP (.gsa) THAT YtedaknjjcdlpnaaDoorProg.lean LOADS. Nothing in Lean hashes anything: it is a label: what it is worth is what the hold of that sum in a sandbox is worth. -/
noncomputable def Tryd.pinned : Pinned := { name := "ytedaknjjcdlpnaadoor", sum := "147547d0bbb83760b3201a049e2b38ee95b0ea817ef9f651276e93b96fa946f2", checked := Tryd.checked }
namespace Rows
def none {H : Type} : Left H := { results := [], args := [] }

/- WHAT THE LISTED PACKAGE-LEVEL VARIABLES READ AS WHEN THE CALL BEGINS. Each datum BY PROGRAM (the guide's laid-datum.mjs) off the statement by which the dump's own 'gosem.cut.vars' lays the variable. In a bare row this is a premise. The card (YtedaknjjcdlpnaaDoorCards.lean) ties it to the program's text. -/
def laid_errors_errorType {H : Type} : DataW H := .iface "internal/reflectlite.rtype" (.agg [.ptr (.lit (.string [101, 114, 114, 111, 114]))])
def laid_loop_example_g00805_impl_errNotRight {H : Type} : DataW H := .iface "*errors.errorString" (.ptr (.agg [.lit (.string [97, 32, 108, 97, 98, 101, 108, 32, 105, 115, 32, 110, 111, 116, 32, 114, 105, 103, 104, 116])]))
def laid_loop_example_g00805_impl_errNotOwned {H : Type} : DataW H := .iface "*errors.errorString" (.ptr (.agg [.lit (.string [105, 116, 32, 105, 115, 32, 99, 108, 101, 97, 114, 101, 100, 32, 111, 114, 32, 114, 97, 105, 115, 101, 100, 32, 98, 121, 32, 111, 110, 101, 32, 119, 104, 111, 32, 100, 111, 101, 115, 32, 110, 111, 116, 32, 111, 119, 110, 32, 105, 116])]))
def laid_loop_example_g00805_impl_errTooHigh {H : Type} : DataW H := .iface "*errors.errorString" (.ptr (.agg [.lit (.string [105, 116, 32, 105, 115, 32, 109, 111, 114, 101, 32, 116, 104, 97, 110, 32, 109, 97, 121, 32, 98, 101, 32, 104, 101, 97, 114, 100])]))

/-- 'laws.FnTerms': WHATEVER THE INPUT: true; the input reads as it did. -/
def fnTermsSpec : ChangeSpec := { name := "fnTerms", vars := ["loop.example/g00805/impl.errTooHigh", "loop.example/g00805/impl.errNotRight", "loop.example/g00805/impl.errNotOwned"], fn := fun _ => fun
  | [d, g1, g2, g3] => { results := [.lit (.bool true)], args := [d], vars := [g1, g2, g3] }
  | _ => none }
def fnTermsRow : OpenClaim := { program := "ytedaknjjcdlpnaadoor", sum := "147547d0bbb83760b3201a049e2b38ee95b0ea817ef9f651276e93b96fa946f2", func := "loop.example/g00805/laws.FnTerms", spec := "fnTerms", inPlace := ["internal/reflectlite.TypeOf", "internal/reflectlite.ValueOf", "(internal/reflectlite.Value).Type", "(internal/reflectlite.Value).IsNil", "(internal/reflectlite.Value).Elem", "(internal/reflectlite.Value).Set"], unfollowed := true, recurses := true, named := ["loop.example/g00805/impl.errTooHigh", "loop.example/g00805/impl.errNotRight", "errors.errorType", "loop.example/g00805/impl.errNotOwned"], ifaces := true, apart := false, laid := [("errors.errorType", laid_errors_errorType), ("loop.example/g00805/impl.errNotRight", laid_loop_example_g00805_impl_errNotRight), ("loop.example/g00805/impl.errNotOwned", laid_loop_example_g00805_impl_errNotOwned), ("loop.example/g00805/impl.errTooHigh", laid_loop_example_g00805_impl_errTooHigh)] }
def FnTermsSaid : Prop := fnTermsRow.holds Tryd.pinned (OpenSpec.ofChange fnTermsSpec)

/-- ITS FALSE NEIGHBOUR: 'it returns false'. Refute it at one input. -/
def fnTermsWrong : ChangeSpec := { name := "fnTerms", vars := ["loop.example/g00805/impl.errTooHigh", "loop.example/g00805/impl.errNotRight", "loop.example/g00805/impl.errNotOwned"], fn := fun _ => fun
  | [d, g1, g2, g3] => { results := [.lit (.bool false)], args := [d], vars := [g1, g2, g3] }
  | _ => none }
def FnTermsWrongFalsely : Prop := fnTermsRow.holds Tryd.pinned (OpenSpec.ofChange fnTermsWrong)

/-- 'laws.FnExactAllowed': WHATEVER THE INPUT: true; the input reads as it did. -/
def fnExactAllowedSpec : ChangeSpec := { name := "fnExactAllowed", vars := ["loop.example/g00805/impl.errNotOwned", "loop.example/g00805/impl.errNotRight"], fn := fun _ => fun
  | [d1, d2, g1, g2] => { results := [.lit (.bool true)], args := [d1, d2], vars := [g1, g2] }
  | _ => none }
def fnExactAllowedRow : OpenClaim := { program := "ytedaknjjcdlpnaadoor", sum := "147547d0bbb83760b3201a049e2b38ee95b0ea817ef9f651276e93b96fa946f2", func := "loop.example/g00805/laws.FnExactAllowed", spec := "fnExactAllowed", inPlace := ["internal/reflectlite.TypeOf", "internal/reflectlite.ValueOf", "(internal/reflectlite.Value).Type", "(internal/reflectlite.Value).IsNil", "(internal/reflectlite.Value).Elem", "(internal/reflectlite.Value).Set"], unfollowed := true, recurses := true, named := ["loop.example/g00805/impl.errNotOwned", "loop.example/g00805/impl.errNotRight", "errors.errorType"], ifaces := true, apart := false, laid := [("errors.errorType", laid_errors_errorType), ("loop.example/g00805/impl.errNotRight", laid_loop_example_g00805_impl_errNotRight), ("loop.example/g00805/impl.errNotOwned", laid_loop_example_g00805_impl_errNotOwned)] }
def FnExactAllowedSaid : Prop := fnExactAllowedRow.holds Tryd.pinned (OpenSpec.ofChange fnExactAllowedSpec)

/-- ITS FALSE NEIGHBOUR: 'it returns false'. Refute it at one input. -/
def fnExactAllowedWrong : ChangeSpec := { name := "fnExactAllowed", vars := ["loop.example/g00805/impl.errNotOwned", "loop.example/g00805/impl.errNotRight"], fn := fun _ => fun
  | [d1, d2, g1, g2] => { results := [.lit (.bool false)], args := [d1, d2], vars := [g1, g2] }
  | _ => none }
def FnExactAllowedWrongFalsely : Prop := fnExactAllowedRow.holds Tryd.pinned (OpenSpec.ofChange fnExactAllowedWrong)

/-- 'laws.FnExactAccepts': WHATEVER THE INPUT: true; the input reads as it did. -/
def fnExactAcceptsSpec : ChangeSpec := { name := "fnExactAccepts", vars := ["loop.example/g00805/impl.errTooHigh", "loop.example/g00805/impl.errNotRight"], fn := fun _ => fun
  | [d1, d2, d3, d4, g1, g2] => { results := [.lit (.bool true)], args := [d1, d2, d3, d4], vars := [g1, g2] }
  | _ => none }
def fnExactAcceptsRow : OpenClaim := { program := "ytedaknjjcdlpnaadoor", sum := "147547d0bbb83760b3201a049e2b38ee95b0ea817ef9f651276e93b96fa946f2", func := "loop.example/g00805/laws.FnExactAccepts", spec := "fnExactAccepts", inPlace := ["internal/reflectlite.TypeOf", "internal/reflectlite.ValueOf", "(internal/reflectlite.Value).Type", "(internal/reflectlite.Value).IsNil", "(internal/reflectlite.Value).Elem", "(internal/reflectlite.Value).Set"], unfollowed := true, recurses := true, named := ["loop.example/g00805/impl.errTooHigh", "loop.example/g00805/impl.errNotRight", "errors.errorType"], ifaces := true, apart := false, laid := [("errors.errorType", laid_errors_errorType), ("loop.example/g00805/impl.errNotRight", laid_loop_example_g00805_impl_errNotRight), ("loop.example/g00805/impl.errTooHigh", laid_loop_example_g00805_impl_errTooHigh)] }
def FnExactAcceptsSaid : Prop := fnExactAcceptsRow.holds Tryd.pinned (OpenSpec.ofChange fnExactAcceptsSpec)

/-- ITS FALSE NEIGHBOUR: 'it returns false'. Refute it at one input. -/
def fnExactAcceptsWrong : ChangeSpec := { name := "fnExactAccepts", vars := ["loop.example/g00805/impl.errTooHigh", "loop.example/g00805/impl.errNotRight"], fn := fun _ => fun
  | [d1, d2, d3, d4, g1, g2] => { results := [.lit (.bool false)], args := [d1, d2, d3, d4], vars := [g1, g2] }
  | _ => none }
def FnExactAcceptsWrongFalsely : Prop := fnExactAcceptsRow.holds Tryd.pinned (OpenSpec.ofChange fnExactAcceptsWrong)

/- THE SECOND FORM. 'bulk': how many values and letters a reading holds, each counted each time it is reached (what is shared counts as often as it is met; a slice's spare places count too). A statement '..UptoSaid' is the law's where the arguments, and the package variables that the reading takes, are together of bulk at most 1048576: NARROWER than '..Said'. Prove '..Said' where nothing that the law and all that it calls make is longer than what came in: it says more and counts as full. Else prove '..UptoSaid'. A law counts once. -/
mutual
def uptoBulk {H : Type} : DataW H → Nat
  | .lit (.string bytes) => bytes.length + 1
  | .lit _ => 1
  | .nil => 1
  | .ptr d => uptoBulk d + 1
  | .slice elems spare => uptoBulkAll elems + uptoBulkAll spare + 1
  | .agg parts => uptoBulkAll parts + 1
  | .iface _ d => uptoBulk d + 1
  | .map entries => uptoBulkEntries entries + 1
  | .held _ => 1
def uptoBulkAll {H : Type} : List (DataW H) → Nat
  | [] => 0
  | d :: r => uptoBulk d + uptoBulkAll r
def uptoBulkEntries {H : Type} : List (Lit × DataW H) → Nat
  | [] => 0
  | x :: r => uptoBulkEntry x + uptoBulkEntries r
def uptoBulkEntry {H : Type} : Lit × DataW H → Nat
  | (.string bytes, d) => bytes.length + uptoBulk d + 1
  | (_, d) => uptoBulk d + 1
 end
def uptoSmall : (H : Type) → List (DataW H) → Bool := fun _ ds => decide (uptoBulkAll ds ≤ 1048576)
def OpenSpec.upto (s : _root_.Go.ChangeSpec) : _root_.Go.OpenSpec := { _root_.Go.OpenSpec.ofChange s with cond := some uptoSmall }

/-- 'laws.FnTerms', WHERE WHAT IT READS IS OF BULK AT MOST 1048576: true; the input reads as it did. -/
def fnTermsUptoRow : OpenClaim := { program := "ytedaknjjcdlpnaadoor", sum := "147547d0bbb83760b3201a049e2b38ee95b0ea817ef9f651276e93b96fa946f2", func := "loop.example/g00805/laws.FnTerms", spec := "fnTerms", inPlace := ["internal/reflectlite.TypeOf", "internal/reflectlite.ValueOf", "(internal/reflectlite.Value).Type", "(internal/reflectlite.Value).IsNil", "(internal/reflectlite.Value).Elem", "(internal/reflectlite.Value).Set"], unfollowed := true, recurses := true, named := ["loop.example/g00805/impl.errTooHigh", "loop.example/g00805/impl.errNotRight", "errors.errorType", "loop.example/g00805/impl.errNotOwned"], ifaces := true, apart := false, laid := [("errors.errorType", laid_errors_errorType), ("loop.example/g00805/impl.errNotRight", laid_loop_example_g00805_impl_errNotRight), ("loop.example/g00805/impl.errNotOwned", laid_loop_example_g00805_impl_errNotOwned), ("loop.example/g00805/impl.errTooHigh", laid_loop_example_g00805_impl_errTooHigh)], narrowed := true }
def FnTermsUptoSaid : Prop := fnTermsUptoRow.holds Tryd.pinned (OpenSpec.upto fnTermsSpec)

/-- 'laws.FnExactAllowed', WHERE WHAT IT READS IS OF BULK AT MOST 1048576: true; the input reads as it did. -/
def fnExactAllowedUptoRow : OpenClaim := { program := "ytedaknjjcdlpnaadoor", sum := "147547d0bbb83760b3201a049e2b38ee95b0ea817ef9f651276e93b96fa946f2", func := "loop.example/g00805/laws.FnExactAllowed", spec := "fnExactAllowed", inPlace := ["internal/reflectlite.TypeOf", "internal/reflectlite.ValueOf", "(internal/reflectlite.Value).Type", "(internal/reflectlite.Value).IsNil", "(internal/reflectlite.Value).Elem", "(internal/reflectlite.Value).Set"], unfollowed := true, recurses := true, named := ["loop.example/g00805/impl.errNotOwned", "loop.example/g00805/impl.errNotRight", "errors.errorType"], ifaces := true, apart := false, laid := [("errors.errorType", laid_errors_errorType), ("loop.example/g00805/impl.errNotRight", laid_loop_example_g00805_impl_errNotRight), ("loop.example/g00805/impl.errNotOwned", laid_loop_example_g00805_impl_errNotOwned)], narrowed := true }
def FnExactAllowedUptoSaid : Prop := fnExactAllowedUptoRow.holds Tryd.pinned (OpenSpec.upto fnExactAllowedSpec)

/-- 'laws.FnExactAccepts', WHERE WHAT IT READS IS OF BULK AT MOST 1048576: true; the input reads as it did. -/
def fnExactAcceptsUptoRow : OpenClaim := { program := "ytedaknjjcdlpnaadoor", sum := "147547d0bbb83760b3201a049e2b38ee95b0ea817ef9f651276e93b96fa946f2", func := "loop.example/g00805/laws.FnExactAccepts", spec := "fnExactAccepts", inPlace := ["internal/reflectlite.TypeOf", "internal/reflectlite.ValueOf", "(internal/reflectlite.Value).Type", "(internal/reflectlite.Value).IsNil", "(internal/reflectlite.Value).Elem", "(internal/reflectlite.Value).Set"], unfollowed := true, recurses := true, named := ["loop.example/g00805/impl.errTooHigh", "loop.example/g00805/impl.errNotRight", "errors.errorType"], ifaces := true, apart := false, laid := [("errors.errorType", laid_errors_errorType), ("loop.example/g00805/impl.errNotRight", laid_loop_example_g00805_impl_errNotRight), ("loop.example/g00805/impl.errTooHigh", laid_loop_example_g00805_impl_errTooHigh)], narrowed := true }
def FnExactAcceptsUptoSaid : Prop := fnExactAcceptsUptoRow.holds Tryd.pinned (OpenSpec.upto fnExactAcceptsSpec)

end Rows
end Go.Proofs.YtedaknjjcdlpnaaDoor
