/-
  Chapter 6 as plain data, and of the model: handles and their makers.
-/
import Derived.Test.YtnpeojlhjbdjiaaGreatDoorMem
namespace Go.Proofs.YtnpeojlhjbdjiaaGreatDoor
set_option maxRecDepth 100000
open Go.RowKit

def handleOf (who n : Int) : Int := if 0 ≤ who ∧ who ≤ 3 ∧ 0 ≤ n ∧ n ≤ 8 then 100 * who + n else -1
def makerOf (h : Int) : Int := if 0 ≤ h ∧ h ≤ 999 ∧ h / 100 < 4 ∧ h % 100 ≤ 8 then h / 100 else -1
theorem handleOf_yes {who n : Int} (a : 0 ≤ who) (b : who ≤ 3) (c : 0 ≤ n) (d : n ≤ 8) : handleOf who n = 100 * who + n := if_pos ⟨a, b, c, d⟩
theorem handleOf_no {who n : Int} (h : ¬ (0 ≤ who ∧ who ≤ 3 ∧ 0 ≤ n ∧ n ≤ 8)) : handleOf who n = -1 := if_neg h
theorem makerOf_yes {h : Int} (a : 0 ≤ h) (b : h ≤ 999) (c : h / 100 < 4) (d : h % 100 ≤ 8) : makerOf h = h / 100 := if_pos ⟨a, b, c, d⟩
theorem makerOf_no {h : Int} (k : ¬ (0 ≤ h ∧ h ≤ 999 ∧ h / 100 < 4 ∧ h % 100 ≤ 8)) : makerOf h = -1 := if_neg k
theorem maker_handle {who n : Int} (h : ¬ handleOf who n < 0) : makerOf (handleOf who n) = who := by
  unfold handleOf at h ⊢
  split at h
  · rename_i k
    rw [if_pos k]
    unfold makerOf
    rw [if_pos (by omega)]
    omega
  · omega
theorem handle_maker {h : Int} (k : ¬ makerOf h < 0) : handleOf (makerOf h) (h % 100) = h := by
  unfold makerOf at k ⊢
  split at k
  · rename_i j
    rw [if_pos j]
    unfold handleOf
    rw [if_pos (by omega)]
    omega
  · omega
theorem handleOf_wf (who n : Int) : (Lit.int .i64 (handleOf who n)).wf = true := by
  have m : IntKind.i64.min = -9223372036854775808 := by decide
  have : -1 ≤ handleOf who n ∧ handleOf who n ≤ 308 := by unfold handleOf; split <;> omega
  simp [Lit.wf, m]
  omega
def inR (x lo hi : Int) : Bool := decide (lo ≤ x) && decide (x ≤ hi)

theorem spec_inr (x lo hi : Int) (w : World) : Calls Tryz.prog 64 #[.int .i64 x, .int .i64 lo, .int .i64 hi] w (RetS (.bool (inR x lo hi)) w) := by
  by_cases h : lo ≤ x
  · have HR : Hid (inR x lo hi = decide (x ≤ hi)) := Lib.hid (by simp [inR, h])
    go_enter Tryz.func64, Tryz.ntmps64
    go_wp2
    go_ret
    exact .mk (by rw [HR.out]; rfl)
  · have HR : Hid (inR x lo hi = false) := Lib.hid (by simp [inR, h])
    go_enter Tryz.func64, Tryz.ntmps64
    go_wp2
    go_ret
    exact .mk (by rw [HR.out]; rfl)
theorem spec_who (x : Int) (w : World) : Calls Tryz.prog 38 #[.int .i64 x] w (RetS (.bool (inR x 0 3)) w) := by
  go_enter Tryz.func38, Tryz.ntmps38
  go_wp2_with (go_at_call 64; refine (spec_inr _ _ _ _).mono ?_; rintro e w' ⟨rfl, rfl⟩)
  go_ret
  exact .mk rfl
theorem spec_makerof (h : Int) (w : World) : Calls Tryz.prog 17 #[.int .i64 h] w (RetS (.int .i64 (makerOf h)) w) := by
  cases k : hOk h
  · have HR := Lib.hid (makerOf_no (h := h) (fun q => by have := hOk_yes q.1 q.2.1; rw [this] at k; cases k))
    go_enter Tryz.func17, Tryz.ntmps17
    go_wp2_with (go_at_call 41; refine (spec_handle _ _).mono ?_; rintro e w' ⟨rfl, rfl⟩)
    go_ret
    exact .mk (by rw [HR.out]; rfl)
  · obtain ⟨h0, h1⟩ := of_hOk k
    have d1 : Int.tdiv h 100 = h / 100 := Int.tdiv_eq_ediv_of_nonneg h0
    have d2 : Int.tmod h 100 = h % 100 := Int.tmod_eq_emod_of_nonneg h0
    have e1 : IntKind.i64.wrap (h / 100) = h / 100 := IntWalk.i64_in _ (by omega)
    have e2 : IntKind.i64.wrap (h % 100) = h % 100 := IntWalk.i64_in _ (by omega)
    by_cases c : h / 100 < 4
    · by_cases d : h % 100 ≤ 8
      · have HR := Lib.hid (makerOf_yes h0 h1 c d)
        go_enter Tryz.func17, Tryz.ntmps17
        go_wp2_with (go_at_call 41; refine (spec_handle _ _).mono ?_; rintro e w' ⟨rfl, rfl⟩)
        go_ret
        exact .mk (by rw [HR.out]; rfl)
      · have HR := Lib.hid (makerOf_no (h := h) (fun q => d q.2.2.2))
        have d' : 8 < h % 100 := by omega
        go_enter Tryz.func17, Tryz.ntmps17
        go_wp2_with (go_at_call 41; refine (spec_handle _ _).mono ?_; rintro e w' ⟨rfl, rfl⟩)
        go_ret
        exact .mk (by rw [HR.out]; rfl)
    · have HR := Lib.hid (makerOf_no (h := h) (fun q => c q.2.2.1))
      have c' : 4 ≤ h / 100 := by omega
      go_enter Tryz.func17, Tryz.ntmps17
      go_wp2_with (go_at_call 41; refine (spec_handle _ _).mono ?_; rintro e w' ⟨rfl, rfl⟩)
      go_ret
      exact .mk (by rw [HR.out]; rfl)
end Go.Proofs.YtnpeojlhjbdjiaaGreatDoor
