/-
  Chapter 6 of the program: an origin's nearest, whether it keeps to the limits, HandleOf and MakerOf.
-/
import Derived.Test.YtppkiokpddieoaaHandle
import Derived.Laws.StructEq
import Derived.Deep.RegionHeld3
import Derived.Deep.RegionWith
import Derived.WalkSpells
namespace Go.Proofs.Ytppkiokpddieoaa
set_option maxRecDepth 100000
open Go.RowKit

/-- Of a number, the nearest from 0 to hi. -/
def nearIn (x hi : Int) : Int := if hi < (if 0 > x then 0 else x) then hi else (if 0 > x then 0 else x)
theorem near_yes {x hi : Int} (h : 0 ≤ x) (k : x ≤ hi) : nearIn x hi = x := by unfold nearIn; split <;> split <;> omega
theorem near_is {x hi v : Int} (h : (x < 0 ∧ v = 0 ∧ 0 ≤ hi) ∨ (0 ≤ x ∧ hi < x ∧ v = hi) ∨ (0 ≤ x ∧ x ≤ hi ∧ v = x)) : nearIn x hi = v := by
  unfold nearIn
  by_cases k : 0 > x
  · simp only [k, if_true]
    split <;> omega
  · simp only [k, if_false]
    split <;> omega
theorem agg2 {a b c d : Int} (h : c = a) (k : d = b) : Ending.returned (.agg #[.int .i64 a, .int .i64 b]) = .returned (.agg #[.int .i64 c, .int .i64 d]) := by rw [h, k]
theorem near_eq {x hi : Int} (hh : 0 ≤ hi) (h : nearIn x hi = x) : 0 ≤ x ∧ x ≤ hi := by
  unfold nearIn at h
  by_cases k : 0 > x
  · simp only [k, if_true] at h
    split at h <;> omega
  · simp only [k, if_false] at h
    split at h <;> omega
def origOk (a b : Int) : Bool := (a == nearIn a 3) && (b == nearIn b 8)
theorem origOk_iff (a b : Int) : origOk a b = true ↔ (0 ≤ a ∧ a ≤ 3 ∧ 0 ≤ b ∧ b ≤ 8) := by
  unfold origOk
  simp only [Bool.and_eq_true, beq_iff_eq]
  constructor
  · rintro ⟨h, k⟩
    have := near_eq (by omega) h.symm
    have := near_eq (by omega) k.symm
    omega
  · rintro ⟨h0, h1, h2, h3⟩
    exact ⟨(near_yes h0 h1).symm, (near_yes h2 h3).symm⟩

theorem impl_nearest (a b : Int) (w : World) : Calls Try.prog 26 #[.agg #[.int .i64 a, .int .i64 b]] w (RetV (.agg #[.int .i64 (nearIn a 3), .int .i64 (nearIn b 8)]) w) := by
  go_enter Try.func26, Try.ntmps26
  go_wp2
  all_goals
    go_returns
    exact .mk (agg2 (near_is (by omega)) (near_is (by omega))) (by go_grown)

theorem eq_orig (x y : Operand) (a b c d : Int) (w : World) : (eqGuard .eql 37 x y (.agg #[.int .i64 a, .int .i64 b]) (.agg #[.int .i64 c, .int .i64 d])).run Try.prog w = .ok () w ∧
    (binOp .eql 37 (.agg #[.int .i64 a, .int .i64 b]) (.agg #[.int .i64 c, .int .i64 d])).run Try.prog w = .ok (.bool (a == c && b == d)) w := by
  refine ⟨run_eqGuard_agg w _ _ _ _ _ _ (by kernel_rfl), ?_⟩
  have hS : Try.prog.underlying 37 = some (.struct (Try.prog.fieldsOf 37)) := by kernel_rfl
  have hp : Try.prog.stoodInHeld 37 = false := by kernel_rfl
  have u := Try.underlying2
  have g := Try.isAgg2
  have z := Try.sizeOf2
  rw [run_eql_struct, show (10000 : Nat) = 9999 + 1 from rfl, run_equalIn_agg w 9999 37 _ _ hS hp]
  simp only [Program.fieldsOf, Try.underlying37]
  go_simp
  by_cases h1 : a = c <;> by_cases h2 : b = d <;> simp [h1, h2]

theorem impl_origok (a b : Int) (w : World) : Calls Try.prog 18 #[.agg #[.int .i64 a, .int .i64 b]] w (RetV (.bool (origOk a b)) w) := by
  have HG : ∀ x y w, (eqGuard .eql 37 x y (.agg #[.int .i64 a, .int .i64 b]) (.agg #[.int .i64 (nearIn a 3), .int .i64 (nearIn b 8)])).run Try.prog w = .ok () w := fun x y w => (eq_orig x y a b _ _ w).1
  have HB : ∀ w, (binOp .eql 37 (.agg #[.int .i64 a, .int .i64 b]) (.agg #[.int .i64 (nearIn a 3), .int .i64 (nearIn b 8)])).run Try.prog w = .ok (.bool (origOk a b)) w := fun w => (eq_orig (.tmp 0) (.tmp 0) a b _ _ w).2
  go_enter Try.func18, Try.ntmps18
  go_wp2
  generalize hW : (w.alloc (.cells #[.int .i64 a, .int .i64 b] 37)) = w2
  have e0 : w2.cell? ⟨w.heap.size, 0, none⟩ = some (.int .i64 a) := by subst hW; go_simp
  have e1 : w2.cell? ⟨w.heap.size, 1, none⟩ = some (.int .i64 b) := by subst hW; go_simp
  have hs : w.heap.size < w2.heap.size := by subst hW; simp
  have hb2 : Below w.heap.size w w2 := by subst hW; go_grown
  have HC := Lib.hid (Below.refl w2.heap.size w2)
  clear hW
  go_region_held3 (fun w' => w'.cell? ⟨w.heap.size, 0, none⟩ = some (.int .i64 a) ∧ w'.cell? ⟨w.heap.size, 1, none⟩ = some (.int .i64 b))
    (first | exact ⟨e0, e1⟩ | exact ⟨f0, f1⟩ | go_keep)
    (first
      | (go_at_call 26
         refine (impl_nearest _ _ _).mono ?_
         rintro e w3 ⟨rfl, hb3⟩
         have HC : Hid (Below w2.heap.size w2 w3) := Lib.hid (by first | exact below_more HC.out hb3 | exact below_more HC.out (below_undrew hb3))
         have f0 : w3.cell? ⟨w.heap.size, 0, none⟩ = some (.int .i64 a) := (HC.out.cell (by simp only []; omega)).trans e0
         have f1 : w3.cell? ⟨w.heap.size, 1, none⟩ = some (.int .i64 b) := (HC.out.cell (by simp only []; omega)).trans e1))
  all_goals
    go_wp2
    go_ret
    exact .mk rfl (below_more hb2 HC.out)

theorem impl_handleof (who n : Int) (w : World) : Calls Try.prog 9 #[.int .i64 who, .int .i64 n] w (RetV (.int .i64 (handleOf who n)) w) := by
  cases h : origOk who n
  · have HR := Lib.hid (handleOf_no (who := who) (n := n) (fun k => by rw [(origOk_iff _ _).2 k] at h; cases h))
    have HO := fun w => Lib.hid (by have := impl_origok who n w; rw [h] at this; exact this)
    clear h
    go_enter Try.func9, Try.ntmps9
    go_wp2_with fail
    refine (HO _).out.mono ?_
    rintro e w1 ⟨rfl, hb⟩
    go_wp2
    go_ret
    exact .mk (by rw [HR.out]; rfl) (below_more (by go_grown) hb)
  · have hk := (origOk_iff _ _).1 h
    have HR := Lib.hid (handleOf_yes hk.1 hk.2.1 hk.2.2.1 hk.2.2.2)
    have HO := fun w => Lib.hid (by have := impl_origok who n w; rw [h] at this; exact this)
    have e1 : IntKind.i64.wrap (100 * who) = 100 * who := IntWalk.i64_in _ (by omega)
    have e2 : IntKind.i64.wrap (100 * who + n) = 100 * who + n := IntWalk.i64_in _ (by omega)
    clear h hk
    go_enter Try.func9, Try.ntmps9
    go_wp2_with fail
    refine (HO _).out.mono ?_
    rintro e w1 ⟨rfl, hb⟩
    have c0 : w1.cell? ⟨w.heap.size, 0, none⟩ = some (.int .i64 who) := (hb.cell (by simp)).trans (by go_simp)
    have c1 : w1.cell? ⟨w.heap.size, 1, none⟩ = some (.int .i64 n) := (hb.cell (by simp)).trans (by go_simp)
    have HB := Lib.hid (below_more (by go_grown : Below w.heap.size w (w.alloc (.cells #[.int .i64 who, .int .i64 n] 37))) hb)
    clear hb
    go_wp2
    go_ret
    exact .mk (by rw [HR.out]; rfl) HB.out

theorem impl_originof (h : Int) (w : World) (e1 : IntKind.i64.wrap (Int.tdiv h 100) = Int.tdiv h 100) (_e2 : IntKind.i64.wrap (Int.tmod h 100) = Int.tmod h 100) : Calls Try.prog 19 #[.int .i64 h] w (RetV (.agg #[.int .i64 (Int.tdiv h 100), .int .i64 (Int.tmod h 100)]) w) := by
  go_enter Try.func19, Try.ntmps19
  go_wp2
  go_returns
  exact .mk rfl (by go_grown)

/-- At a number of int64, whatever it is. -/
theorem impl_makerof (h : Int) (w : World) (hw : (Lit.int .i64 h).wf = true) : Calls Try.prog 10 #[.int .i64 h] w (RetV (.int .i64 (makerOf h)) w) := by
  have hr : -9223372036854775808 ≤ h ∧ h ≤ 9223372036854775807 := by
    have m : IntKind.i64.min = -9223372036854775808 := by decide
    simpa [Lit.wf, m] using hw
  have d1 : -92233720368547759 ≤ Int.tdiv h 100 ∧ Int.tdiv h 100 ≤ 92233720368547759 := by
    rcases Int.le_total 0 h with k | k
    · rw [Int.tdiv_eq_ediv_of_nonneg k]; omega
    · obtain ⟨m, rfl⟩ : ∃ m, h = -m := ⟨-h, by omega⟩
      rw [Int.neg_tdiv, Int.tdiv_eq_ediv_of_nonneg (by omega)]; omega
  have d2 : -100 < Int.tmod h 100 ∧ Int.tmod h 100 < 100 := ⟨by have := Int.tmod_lt_of_pos (-h) (show (0 : Int) < 100 by omega); rw [Int.neg_tmod] at this; omega, Int.tmod_lt_of_pos _ (by omega)⟩
  have e1 : IntKind.i64.wrap (Int.tdiv h 100) = Int.tdiv h 100 := IntWalk.i64_in _ (by omega)
  have e2 : IntKind.i64.wrap (Int.tmod h 100) = Int.tmod h 100 := IntWalk.i64_in _ (by omega)
  have hn : 0 ≤ h → 0 ≤ Int.tmod h 100 := fun k => Int.tmod_nonneg _ k
  have hs : Int.tdiv h 100 * 100 + Int.tmod h 100 = h := by have := Int.mul_tdiv_add_tmod h 100; omega
  have HG := fun w => Lib.hid (impl_originof h w e1 e2)
  generalize Int.tdiv h 100 = a at *
  generalize Int.tmod h 100 = b at *
  have HR := Lib.hid (show makerOf h = if origOk a b = true then a else -1 by
    by_cases k : origOk a b = true
    · have := (origOk_iff _ _).1 k
      rw [if_pos k, makerOf_yes (by omega) (by omega) (by omega) (by omega)]
      omega
    · rw [if_neg k]
      refine makerOf_no (fun q => k ((origOk_iff _ _).2 ?_))
      omega)
  cases k : origOk a b
  · have HO := fun w => Lib.hid (by have := impl_origok a b w; rw [k] at this; exact this)
    have HR := Lib.hid (by have := HR.out; rw [k] at this; exact this)
    clear k e1 e2 d1 d2 hs hr hw hn
    go_enter Try.func10, Try.ntmps10
    go_wp2_with fail
    refine (HG _).out.mono ?_
    rintro e w1 ⟨rfl, hb⟩
    go_wp2_with fail
    refine (HO _).out.mono ?_
    rintro e w2 ⟨rfl, hb'⟩
    go_wp2
    go_ret
    exact .mk (by rw [HR.out]; rfl) (below_more (hb.alloc hb.size _) hb')
  · have HO := fun w => Lib.hid (by have := impl_origok a b w; rw [k] at this; exact this)
    have HR := Lib.hid (by have := HR.out; rw [k] at this; exact this)
    clear k e1 e2 d1 d2 hs hr hw hn
    go_enter Try.func10, Try.ntmps10
    go_wp2_with fail
    refine (HG _).out.mono ?_
    rintro e w1 ⟨rfl, hb⟩
    go_wp2_with fail
    refine (HO _).out.mono ?_
    rintro e w2 ⟨rfl, hb'⟩
    have c0 : w2.cell? ⟨w1.heap.size, 0, none⟩ = some (.int .i64 a) := (hb'.cell (by simp)).trans (by go_simp)
    have HB := Lib.hid (below_more (hb.alloc hb.size _) hb')
    clear hb hb'
    go_wp2
    go_ret
    exact .mk (by rw [HR.out]; rfl) HB.out
end Go.Proofs.Ytppkiokpddieoaa
