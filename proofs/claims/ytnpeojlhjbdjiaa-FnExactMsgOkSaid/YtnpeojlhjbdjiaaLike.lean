/-
  The plain laws' comparisons: two that read as the same label, as the same numbers, are alike.
-/
import Derived.Test.YtnpeojlhjbdjiaaLab
import Derived.Test.YtnpeojlhjbdjiaaFlInt64
import Derived.Laws.StructEq
import Derived.Deep.QuietTactic
import Derived.BigQuiet
import Derived.RegionTactic
namespace Go.Proofs.Ytnpeojlhjbdjiaa
set_option maxRecDepth 100000
open Go.RowKit

theorem neq_part (x y : Int) (w : World) : (binOp .neq 82 (.agg #[.int .i64 x, .int .i64 y]) (.agg #[.int .i64 x, .int .i64 y])).run Try.prog w = .ok (.bool false) w := by
  have u3 := Try.underlying2
  have a3 := Try.isAgg2
  have z3 := Try.sizeOf2
  have hS : Try.prog.underlying 82 = some (.struct (Try.prog.fieldsOf 82)) := by kernel_rfl
  have hp : Try.prog.stoodInHeld 82 = false := by kernel_rfl
  rw [run_neq_struct, show (10000 : Nat) = 9999 + 1 from rfl, run_equalIn_agg w 9999 82 _ _ hS hp]
  simp only [Program.fieldsOf, Try.underlying82]
  go_simp
theorem guard_part (op : BinOp) (a b : Operand) (xs ys : Array Value) (w : World) : (eqGuard op 82 a b (.agg xs) (.agg ys)).run Try.prog w = .ok () w := run_eqGuard_agg w op _ a b xs ys (by kernel_rfl)


end Go.Proofs.Ytnpeojlhjbdjiaa
