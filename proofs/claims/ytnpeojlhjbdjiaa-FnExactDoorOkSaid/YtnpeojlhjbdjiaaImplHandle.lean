/-
  Chapter 6 of the program: an origin's nearest, whether it keeps to the limits, HandleOf and MakerOf.
-/
import Derived.Test.YtnpeojlhjbdjiaaHandle
import Derived.Laws.StructEq
import Derived.Deep.RegionHeld3
import Derived.Deep.RegionWith
import Derived.WalkSpells
namespace Go.Proofs.Ytnpeojlhjbdjiaa
set_option maxRecDepth 100000
open Go.RowKit

/-- Of a number, the nearest from 0 to hi. -/
def nearIn (x hi : Int) : Int := if hi < (if 0 > x then 0 else x) then hi else (if 0 > x then 0 else x)
theorem near_yes {x hi : Int} (h : 0 ≤ x) (k : x ≤ hi) : nearIn x hi = x := by unfold nearIn; split <;> split <;> omega
theorem near_is {x hi v : Int} (h : (x < 0 ∧ v = 0 ∧ 0 ≤ hi) ∨ (0 ≤ x ∧ hi < x ∧ v = hi) ∨ (0 ≤ x ∧ x ≤ hi ∧ v = x)) : nearIn x hi = v := by
  unfold nearIn
  by_cases k : 0 > x
  · simp only [k, if_true]
    split <;> omega
  · simp only [k, if_false]
    split <;> omega
theorem agg2 {a b c d : Int} (h : c = a) (k : d = b) : Ending.returned (.agg #[.int .i64 a, .int .i64 b]) = .returned (.agg #[.int .i64 c, .int .i64 d]) := by rw [h, k]
theorem near_eq {x hi : Int} (hh : 0 ≤ hi) (h : nearIn x hi = x) : 0 ≤ x ∧ x ≤ hi := by
  unfold nearIn at h
  by_cases k : 0 > x
  · simp only [k, if_true] at h
    split at h <;> omega
  · simp only [k, if_false] at h
    split at h <;> omega
def origOk (a b : Int) : Bool := (a == nearIn a 3) && (b == nearIn b 8)
theorem origOk_iff (a b : Int) : origOk a b = true ↔ (0 ≤ a ∧ a ≤ 3 ∧ 0 ≤ b ∧ b ≤ 8) := by
  unfold origOk
  simp only [Bool.and_eq_true, beq_iff_eq]
  constructor
  · rintro ⟨h, k⟩
    have := near_eq (by omega) h.symm
    have := near_eq (by omega) k.symm
    omega
  · rintro ⟨h0, h1, h2, h3⟩
    exact ⟨(near_yes h0 h1).symm, (near_yes h2 h3).symm⟩

theorem impl_nearest (a b : Int) (w : World) : Calls Try.prog 76 #[.agg #[.int .i64 a, .int .i64 b]] w (RetV (.agg #[.int .i64 (nearIn a 3), .int .i64 (nearIn b 8)]) w) := by
  go_enter Try.func76, Try.ntmps76
  go_wp2
  all_goals
    go_returns
    exact .mk (agg2 (near_is (by omega)) (near_is (by omega))) (by go_grown)

theorem eq_orig (x y : Operand) (a b c d : Int) (w : World) : (eqGuard .eql 87 x y (.agg #[.int .i64 a, .int .i64 b]) (.agg #[.int .i64 c, .int .i64 d])).run Try.prog w = .ok () w ∧
    (binOp .eql 87 (.agg #[.int .i64 a, .int .i64 b]) (.agg #[.int .i64 c, .int .i64 d])).run Try.prog w = .ok (.bool (a == c && b == d)) w := by
  refine ⟨run_eqGuard_agg w _ _ _ _ _ _ (by kernel_rfl), ?_⟩
  have hS : Try.prog.underlying 87 = some (.struct (Try.prog.fieldsOf 87)) := by kernel_rfl
  have hp : Try.prog.stoodInHeld 87 = false := by kernel_rfl
  have u := Try.underlying2
  have g := Try.isAgg2
  have z := Try.sizeOf2
  rw [run_eql_struct, show (10000 : Nat) = 9999 + 1 from rfl, run_equalIn_agg w 9999 87 _ _ hS hp]
  simp only [Program.fieldsOf, Try.underlying87]
  go_simp
  by_cases h1 : a = c <;> by_cases h2 : b = d <;> simp [h1, h2]

theorem impl_origok (a b : Int) (w : World) : Calls Try.prog 63 #[.agg #[.int .i64 a, .int .i64 b]] w (RetV (.bool (origOk a b)) w) := by
  have HG : ∀ x y w, (eqGuard .eql 87 x y (.agg #[.int .i64 a, .int .i64 b]) (.agg #[.int .i64 (nearIn a 3), .int .i64 (nearIn b 8)])).run Try.prog w = .ok () w := fun x y w => (eq_orig x y a b _ _ w).1
  have HB : ∀ w, (binOp .eql 87 (.agg #[.int .i64 a, .int .i64 b]) (.agg #[.int .i64 (nearIn a 3), .int .i64 (nearIn b 8)])).run Try.prog w = .ok (.bool (origOk a b)) w := fun w => (eq_orig (.tmp 0) (.tmp 0) a b _ _ w).2
  go_enter Try.func63, Try.ntmps63
  go_wp2
  generalize hW : (w.alloc (.cells #[.int .i64 a, .int .i64 b] 87)) = w2
  have e0 : w2.cell? ⟨w.heap.size, 0, none⟩ = some (.int .i64 a) := by subst hW; go_simp
  have e1 : w2.cell? ⟨w.heap.size, 1, none⟩ = some (.int .i64 b) := by subst hW; go_simp
  have hs : w.heap.size < w2.heap.size := by subst hW; simp
  have hb2 : Below w.heap.size w w2 := by subst hW; go_grown
  have HC := Lib.hid (Below.refl w2.heap.size w2)
  clear hW
  go_region_held3 (fun w' => w'.cell? ⟨w.heap.size, 0, none⟩ = some (.int .i64 a) ∧ w'.cell? ⟨w.heap.size, 1, none⟩ = some (.int .i64 b))
    (first | exact ⟨e0, e1⟩ | exact ⟨f0, f1⟩ | go_keep)
    (first
      | (go_at_call 76
         refine (impl_nearest _ _ _).mono ?_
         rintro e w3 ⟨rfl, hb3⟩
         have HC : Hid (Below w2.heap.size w2 w3) := Lib.hid (by first | exact below_more HC.out hb3 | exact below_more HC.out (below_undrew hb3))
         have f0 : w3.cell? ⟨w.heap.size, 0, none⟩ = some (.int .i64 a) := (HC.out.cell (by simp only []; omega)).trans e0
         have f1 : w3.cell? ⟨w.heap.size, 1, none⟩ = some (.int .i64 b) := (HC.out.cell (by simp only []; omega)).trans e1))
  all_goals
    go_wp2
    go_ret
    exact .mk rfl (below_more hb2 HC.out)

theorem impl_originof (h : Int) (w : World) (e1 : IntKind.i64.wrap (Int.tdiv h 100) = Int.tdiv h 100) (_e2 : IntKind.i64.wrap (Int.tmod h 100) = Int.tmod h 100) : Calls Try.prog 62 #[.int .i64 h] w (RetV (.agg #[.int .i64 (Int.tdiv h 100), .int .i64 (Int.tmod h 100)]) w) := by
  go_enter Try.func62, Try.ntmps62
  go_wp2
  go_returns
  exact .mk rfl (by go_grown)

end Go.Proofs.Ytnpeojlhjbdjiaa
