/-
  The plain laws' comparisons: two that read as the same label, as the same numbers, are alike.
-/
import Derived.Test.YtnpeojlhjbdjiaaGreatDoorLab
import Derived.Test.YtnpeojlhjbdjiaaGreatDoorFlInt64
import Derived.Laws.StructEq
import Derived.Deep.QuietTactic
import Derived.BigQuiet
import Derived.RegionTactic
namespace Go.Proofs.YtnpeojlhjbdjiaaGreatDoor
set_option maxRecDepth 100000
open Go.RowKit

theorem neq_part (x y : Int) (w : World) : (binOp .neq 80 (.agg #[.int .i64 x, .int .i64 y]) (.agg #[.int .i64 x, .int .i64 y])).run Tryz.prog w = .ok (.bool false) w := by
  have u3 := Tryz.underlying2
  have a3 := Tryz.isAgg2
  have z3 := Tryz.sizeOf2
  have hS : Tryz.prog.underlying 80 = some (.struct (Tryz.prog.fieldsOf 80)) := by kernel_rfl
  have hp : Tryz.prog.stoodInHeld 80 = false := by kernel_rfl
  rw [run_neq_struct, show (10000 : Nat) = 9999 + 1 from rfl, run_equalIn_agg w 9999 80 _ _ hS hp]
  simp only [Program.fieldsOf, Tryz.underlying80]
  go_simp
theorem guard_part (op : BinOp) (a b : Operand) (xs ys : Array Value) (w : World) : (eqGuard op 80 a b (.agg xs) (.agg ys)).run Tryz.prog w = .ok () w := run_eqGuard_agg w op _ a b xs ys (by kernel_rfl)

set_option maxHeartbeats 1000000 in
theorem like_lab (v u : Value) (l : Lab) (w : World) (h : RdLab w v l) (k : RdLab w u l) : Calls Tryz.prog 34 #[v, u] w (RetV (.bool true) w) := by
  obtain ⟨A, n, c, rfl, hn, hl, hc, hm, ha⟩ := h
  obtain ⟨B, n', d, rfl, hn', -, -, -, hb⟩ := k
  obtain rfl : n' = n := by omega
  have HN := Lib.hid hn
  have hne := neq_part
  have hgd := guard_part
  clear hn hc hm hn'
  go_enter Tryz.func34, Tryz.ntmps34
  go_wp2
  go_loopw [5] (fun i wr => ∃ k : Nat, k ≤ n' ∧ i = .int .i64 k ∧ Below w.heap.size w wr ∧ wr.cell? ⟨w.heap.size, 1, none⟩ = some (.slice A n' c) ∧ wr.cell? ⟨w.heap.size + 1, 1, none⟩ = some (.slice B n' d)) (fun i _ => n' - (intOf i).toNat)
  case atStart => exact ⟨0, by omega, rfl, by go_grown, by simp [go_sem], by simp [go_sem]⟩
  case round =>
    obtain ⟨k, hk, rfl, hbel, cs, ds⟩ := hrel
    by_cases hlt : k < n'
    · obtain ⟨b, o, x, y, rfl, hx, cx, cy⟩ := ptat (ha.below hbel) (k := k) (by have := HN.out; omega)
      obtain ⟨b2, o2, x2, y2, rfl, hx2, cx2, cy2⟩ := ptat (hb.below hbel) (k := k) (by have := HN.out; omega)
      obtain ⟨rfl, rfl⟩ : x2 = x ∧ y2 = y := by rw [hx] at hx2; simpa [eq_comm] using hx2
      clear hx hx2
      go_wp2
      go_quiet (fail)
      go_wp2
      go_roundw
      case rel => exact ⟨k + 1, by omega, by go_num, below_drewN hbel _, cs, ds⟩
      case measure => simp [intOf]; omega
    · go_wp2
      go_ret
      exact .mk rfl hbel

end Go.Proofs.YtnpeojlhjbdjiaaGreatDoor
