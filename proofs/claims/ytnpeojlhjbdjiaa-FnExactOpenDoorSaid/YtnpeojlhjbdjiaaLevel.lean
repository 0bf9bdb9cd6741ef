/-
  Levels (chapter 1): what LevelOk, Higher and Lower answer at every number, in the program and in its model.
-/
import Derived.Test.YtnpeojlhjbdjiaaBase
namespace Go.Proofs.Ytnpeojlhjbdjiaa
set_option maxRecDepth 100000
open Go.RowKit

/-- Is it a level? -/
def lvOk (n : Int) : Bool := decide (0 ≤ n) && decide (n ≤ 4)
theorem lvOk_yes {n : Int} (h : 0 ≤ n) (h4 : n ≤ 4) : lvOk n = true := by simp [lvOk, h, h4]
theorem lvOk_no {n : Int} (h : n < 0 ∨ 4 < n) : lvOk n = false := by simp [lvOk]; omega
theorem of_lvOk {n : Int} (h : lvOk n = true) : 0 ≤ n ∧ n ≤ 4 := by simpa [lvOk] using h
theorem of_not_lvOk {n : Int} (h : lvOk n = false) : n < 0 ∨ 4 < n := by simp [lvOk] at h; omega

theorem ret_int {k : IntKind} {a b : Int} (h : a = b) : Ending.returned (.int k a) = .returned (.int k b) := by rw [h]

/-- The greater, the lesser of two levels; -1 when one is none. -/
def lvMax (a b : Int) : Int := if lvOk a && lvOk b then max a b else -1
def lvMin (a b : Int) : Int := if lvOk a && lvOk b then min a b else -1
theorem lvMax_out {a b : Int} (h : lvOk a = false ∨ lvOk b = false) : lvMax a b = -1 := by rcases h with h | h <;> simp [lvMax, h]
theorem lvMin_out {a b : Int} (h : lvOk a = false ∨ lvOk b = false) : lvMin a b = -1 := by rcases h with h | h <;> simp [lvMin, h]
theorem lvMax_in {a b : Int} (h : lvOk a = true) (k : lvOk b = true) : lvMax a b = if a < b then b else a := by simp [lvMax, h, k]; omega
theorem lvMin_in {a b : Int} (h : lvOk a = true) (k : lvOk b = true) : lvMin a b = if a < b then a else b := by simp [lvMin, h, k]; omega
theorem lv_cases (n : Int) : n = 0 ∨ n = 1 ∨ n = 2 ∨ n = 3 ∨ n = 4 ∨ (n < 0 ∨ 4 < n) := by omega

theorem impl_ok (n : Int) (w : World) : Calls Try.prog 69 #[.int .i64 n] w fun e w' => e = .returned (.bool (lvOk n)) ∧ w = w' := by
  by_cases h : 0 ≤ n
  · by_cases h4 : n ≤ 4
    · rw [lvOk_yes h h4]
      go_enter Try.func69, Try.ntmps69
      go_wp2
      go_ret
      exact ⟨rfl, rfl⟩
    · rw [lvOk_no (by omega)]
      go_enter Try.func69, Try.ntmps69
      go_wp2
      go_ret
      exact ⟨rfl, rfl⟩
  · rw [lvOk_no (by omega)]
    go_enter Try.func69, Try.ntmps69
    go_wp2
    go_ret
    exact ⟨rfl, rfl⟩

theorem spec_ok (n : Int) (w : World) : Calls Try.prog 53 #[.int .i64 n] w fun e w' => e = .returned (.bool (lvOk n)) ∧ w = w' := by
  by_cases h : 0 ≤ n
  · by_cases h4 : n ≤ 4
    · rw [lvOk_yes h h4]
      go_enter Try.func53, Try.ntmps53
      go_wp2
      go_ret
      exact ⟨rfl, rfl⟩
    · rw [lvOk_no (by omega)]
      go_enter Try.func53, Try.ntmps53
      go_wp2
      go_ret
      exact ⟨rfl, rfl⟩
  · rw [lvOk_no (by omega)]
    go_enter Try.func53, Try.ntmps53
    go_wp2
    go_ret
    exact ⟨rfl, rfl⟩

theorem level_ok (n : Int) (w : World) : Calls Try.prog 79 #[.int .i64 n] w fun e w' => e = .returned (.bool (lvOk n)) ∧ w = w' := by
  by_cases h : 0 ≤ n
  · by_cases h4 : n ≤ 4
    · rw [lvOk_yes h h4]
      go_enter Try.func79, Try.ntmps79
      go_wp2
      go_ret
      exact ⟨rfl, rfl⟩
    · rw [lvOk_no (by omega)]
      go_enter Try.func79, Try.ntmps79
      go_wp2
      go_ret
      exact ⟨rfl, rfl⟩
  · rw [lvOk_no (by omega)]
    go_enter Try.func79, Try.ntmps79
    go_wp2
    go_ret
    exact ⟨rfl, rfl⟩





end Go.Proofs.Ytnpeojlhjbdjiaa
