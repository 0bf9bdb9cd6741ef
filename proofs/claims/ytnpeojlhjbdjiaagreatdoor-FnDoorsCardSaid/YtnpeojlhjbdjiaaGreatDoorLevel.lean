/-
  Levels (chapter 1): what LevelOk, Higher and Lower answer at every number, in the program and in its model.
-/
import Derived.Test.YtnpeojlhjbdjiaaGreatDoorBase
namespace Go.Proofs.YtnpeojlhjbdjiaaGreatDoor
set_option maxRecDepth 100000
open Go.RowKit

/-- Is it a level? -/
def lvOk (n : Int) : Bool := decide (0 ≤ n) && decide (n ≤ 4)
theorem lvOk_yes {n : Int} (h : 0 ≤ n) (h4 : n ≤ 4) : lvOk n = true := by simp [lvOk, h, h4]
theorem lvOk_no {n : Int} (h : n < 0 ∨ 4 < n) : lvOk n = false := by simp [lvOk]; omega
theorem of_lvOk {n : Int} (h : lvOk n = true) : 0 ≤ n ∧ n ≤ 4 := by simpa [lvOk] using h
theorem of_not_lvOk {n : Int} (h : lvOk n = false) : n < 0 ∨ 4 < n := by simp [lvOk] at h; omega

theorem ret_int {k : IntKind} {a b : Int} (h : a = b) : Ending.returned (.int k a) = .returned (.int k b) := by rw [h]

/-- The greater, the lesser of two levels; -1 when one is none. -/
def lvMax (a b : Int) : Int := if lvOk a && lvOk b then max a b else -1
def lvMin (a b : Int) : Int := if lvOk a && lvOk b then min a b else -1
theorem lvMax_out {a b : Int} (h : lvOk a = false ∨ lvOk b = false) : lvMax a b = -1 := by rcases h with h | h <;> simp [lvMax, h]
theorem lvMin_out {a b : Int} (h : lvOk a = false ∨ lvOk b = false) : lvMin a b = -1 := by rcases h with h | h <;> simp [lvMin, h]
theorem lvMax_in {a b : Int} (h : lvOk a = true) (k : lvOk b = true) : lvMax a b = if a < b then b else a := by simp [lvMax, h, k]; omega
theorem lvMin_in {a b : Int} (h : lvOk a = true) (k : lvOk b = true) : lvMin a b = if a < b then a else b := by simp [lvMin, h, k]; omega
theorem lv_cases (n : Int) : n = 0 ∨ n = 1 ∨ n = 2 ∨ n = 3 ∨ n = 4 ∨ (n < 0 ∨ 4 < n) := by omega

theorem impl_ok (n : Int) (w : World) : Calls Tryz.prog 72 #[.int .i64 n] w fun e w' => e = .returned (.bool (lvOk n)) ∧ w = w' := by
  by_cases h : 0 ≤ n
  · by_cases h4 : n ≤ 4
    · rw [lvOk_yes h h4]
      go_enter Tryz.func72, Tryz.ntmps72
      go_wp2
      go_ret
      exact ⟨rfl, rfl⟩
    · rw [lvOk_no (by omega)]
      go_enter Tryz.func72, Tryz.ntmps72
      go_wp2
      go_ret
      exact ⟨rfl, rfl⟩
  · rw [lvOk_no (by omega)]
    go_enter Tryz.func72, Tryz.ntmps72
    go_wp2
    go_ret
    exact ⟨rfl, rfl⟩

theorem spec_ok (n : Int) (w : World) : Calls Tryz.prog 42 #[.int .i64 n] w fun e w' => e = .returned (.bool (lvOk n)) ∧ w = w' := by
  by_cases h : 0 ≤ n
  · by_cases h4 : n ≤ 4
    · rw [lvOk_yes h h4]
      go_enter Tryz.func42, Tryz.ntmps42
      go_wp2
      go_ret
      exact ⟨rfl, rfl⟩
    · rw [lvOk_no (by omega)]
      go_enter Tryz.func42, Tryz.ntmps42
      go_wp2
      go_ret
      exact ⟨rfl, rfl⟩
  · rw [lvOk_no (by omega)]
    go_enter Tryz.func42, Tryz.ntmps42
    go_wp2
    go_ret
    exact ⟨rfl, rfl⟩

theorem level_ok (n : Int) (w : World) : Calls Tryz.prog 95 #[.int .i64 n] w fun e w' => e = .returned (.bool (lvOk n)) ∧ w = w' := by
  by_cases h : 0 ≤ n
  · by_cases h4 : n ≤ 4
    · rw [lvOk_yes h h4]
      go_enter Tryz.func95, Tryz.ntmps95
      go_wp2
      go_ret
      exact ⟨rfl, rfl⟩
    · rw [lvOk_no (by omega)]
      go_enter Tryz.func95, Tryz.ntmps95
      go_wp2
      go_ret
      exact ⟨rfl, rfl⟩
  · rw [lvOk_no (by omega)]
    go_enter Tryz.func95, Tryz.ntmps95
    go_wp2
    go_ret
    exact ⟨rfl, rfl⟩

theorem impl_higher (a b : Int) (w : World) : Calls Tryz.prog 71 #[.int .i64 a, .int .i64 b] w fun e w' => e = .returned (.int .i64 (lvMax a b)) ∧ w = w' := by
  by_cases h0 : 0 ≤ a
  · by_cases h1 : a ≤ 4
    · have ka := lvOk_yes h0 h1
      by_cases h2 : 0 ≤ b
      · by_cases h3 : b ≤ 4
        · have kb := lvOk_yes h2 h3
          by_cases h4 : a < b
          · have h5 : ¬ b < a := by omega
            have HR : Hid (b = lvMax a b) := by rw [lvMax_in ka kb, if_pos h4]; rfl
            clear ka kb
            go_enter Tryz.func71, Tryz.ntmps71
            go_wp2
            go_ret
            exact ⟨ret_int HR.out, rfl⟩
          · have HR : Hid (a = lvMax a b) := by rw [lvMax_in ka kb, if_neg h4]; rfl
            clear ka kb
            by_cases h5 : b < a
            · go_enter Tryz.func71, Tryz.ntmps71
              go_wp2
              go_ret
              exact ⟨ret_int HR.out, rfl⟩
            · obtain rfl : a = b := by omega
              go_enter Tryz.func71, Tryz.ntmps71
              go_wp2
              go_ret
              exact ⟨ret_int HR.out, rfl⟩
        · have HR : Hid (-1 = lvMax a b) := (lvMax_out (.inr (lvOk_no (by omega)))).symm
          clear ka
          go_enter Tryz.func71, Tryz.ntmps71
          go_wp2
          go_ret
          exact ⟨ret_int HR.out, rfl⟩
      · have HR : Hid (-1 = lvMax a b) := (lvMax_out (.inr (lvOk_no (by omega)))).symm
        clear ka
        go_enter Tryz.func71, Tryz.ntmps71
        go_wp2
        go_ret
        exact ⟨ret_int HR.out, rfl⟩
    · have HR : Hid (-1 = lvMax a b) := (lvMax_out (.inl (lvOk_no (by omega)))).symm
      go_enter Tryz.func71, Tryz.ntmps71
      go_wp2
      go_ret
      exact ⟨ret_int HR.out, rfl⟩
  · have HR : Hid (-1 = lvMax a b) := (lvMax_out (.inl (lvOk_no (by omega)))).symm
    go_enter Tryz.func71, Tryz.ntmps71
    go_wp2
    go_ret
    exact ⟨ret_int HR.out, rfl⟩




end Go.Proofs.YtnpeojlhjbdjiaaGreatDoor
