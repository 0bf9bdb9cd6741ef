/-
  Chapter 1 of the model: the lesser, the greater of two numbers.
-/
import Derived.Test.YtjdnobihhkmmpaaSpecOrd
import Derived.Test.YtjdnobihhkmmpaaBld
import Derived.Deep.RegionLaw
namespace Go.Proofs.Ytjdnobihhkmmpaa
set_option maxRecDepth 100000
open Go.RowKit

theorem spec_min (x y : Int) (w : World) : Calls Try.prog 72 #[.int .i64 x, .int .i64 y] w (RetS (.int .i64 (min x y)) w) := by
  by_cases h : x < y
  · have e : min x y = x := by omega
    have HE := Lib.hid e
    clear e
    go_enter Try.func72, Try.ntmps72
    go_wp2
    go_ret
    exact .mk (by rw [HE.out]; rfl)
  · have e : min x y = y := by omega
    have HE := Lib.hid e
    clear e
    go_enter Try.func72, Try.ntmps72
    go_wp2
    go_ret
    exact .mk (by rw [HE.out]; rfl)
theorem spec_max (x y : Int) (w : World) : Calls Try.prog 81 #[.int .i64 x, .int .i64 y] w (RetS (.int .i64 (max x y)) w) := by
  by_cases h : y < x
  · have e : max x y = x := by omega
    have HE := Lib.hid e
    clear e
    go_enter Try.func81, Try.ntmps81
    go_wp2
    go_ret
    exact .mk (by rw [HE.out]; rfl)
  · have e : max x y = y := by omega
    have HE := Lib.hid e
    clear e
    go_enter Try.func81, Try.ntmps81
    go_wp2
    go_ret
    exact .mk (by rw [HE.out]; rfl)
end Go.Proofs.Ytjdnobihhkmmpaa
