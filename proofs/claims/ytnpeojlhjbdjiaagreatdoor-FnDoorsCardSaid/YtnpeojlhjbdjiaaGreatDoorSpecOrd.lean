/-
  Texts put together: SpecOrd, SpecMinMax. What each proves stands ahead of it.
-/
import Derived.Test.YtnpeojlhjbdjiaaGreatDoorSpecLab
import Derived.Test.YtnpeojlhjbdjiaaGreatDoorPure
import Derived.Test.YtnpeojlhjbdjiaaGreatDoorHas
import Derived.Deep.RegionLaw
/-
  Chapter 3 of the model: AtMost.
-/
namespace Go.Proofs.YtnpeojlhjbdjiaaGreatDoor
set_option maxRecDepth 100000
open Go.RowKit

/-- Two boxed labels, kept. -/
theorem boxes2 {w w1 : World} {a b c d : Value} {t s : TypeId} (hb : Below ((w.alloc (.cells #[a, b] t)).alloc (.cells #[c, d] s)).heap.size ((w.alloc (.cells #[a, b] t)).alloc (.cells #[c, d] s)) w1) :
    Has w1 w.heap.size [a, b] ∧ Has w1 (w.heap.size + 1) [c, d] ∧ w.heap.size + 1 < w1.heap.size ∧ Below w.heap.size w w1 := ⟨Has.new2 hb, Has.new3 hb, (box4 hb).2.2.1, (box4 hb).2.2.2⟩
def AmLeft (l m : Lab) (hs : List Int) (k : Nat) : Prop := atMostIn l m hs = atMostIn l m (hs.drop k)
theorem AmLeft.zero (l m : Lab) (hs : List Int) : AmLeft l m hs 0 := rfl
theorem AmLeft.succ {l m : Lab} {hs : List Int} {k : Nat} {x : Int} (h : AmLeft l m hs k) (hx : hs[k]? = some x) (hl : lev l x ≤ lev m x) : AmLeft l m hs (k + 1) := by
  unfold AmLeft at h ⊢; rw [h, drop_at hx]; simp [atMostIn, hl]
theorem AmLeft.bad {l m : Lab} {hs : List Int} {k : Nat} {x : Int} (h : AmLeft l m hs k) (hx : hs[k]? = some x) (hl : ¬ lev l x ≤ lev m x) : atMostIn l m hs = false := by
  unfold AmLeft at h; rw [h, drop_at hx]; simp [atMostIn, hl]
theorem AmLeft.done {l m : Lab} {hs : List Int} {k : Nat} (h : AmLeft l m hs k) (hk : hs.length ≤ k) : atMostIn l m hs = true := by
  unfold AmLeft at h; rw [h, List.drop_eq_nil_of_le hk]; rfl

end Go.Proofs.YtnpeojlhjbdjiaaGreatDoor

/-
  Chapter 1 of the model: the lesser, the greater of two numbers.
-/
namespace Go.Proofs.YtnpeojlhjbdjiaaGreatDoor
set_option maxRecDepth 100000
open Go.RowKit

theorem spec_min (x y : Int) (w : World) : Calls Tryz.prog 75 #[.int .i64 x, .int .i64 y] w (RetS (.int .i64 (min x y)) w) := by
  by_cases h : x < y
  · have e : min x y = x := by omega
    have HE := Lib.hid e
    clear e
    go_enter Tryz.func75, Tryz.ntmps75
    go_wp2
    go_ret
    exact .mk (by rw [HE.out]; rfl)
  · have e : min x y = y := by omega
    have HE := Lib.hid e
    clear e
    go_enter Tryz.func75, Tryz.ntmps75
    go_wp2
    go_ret
    exact .mk (by rw [HE.out]; rfl)
theorem spec_max (x y : Int) (w : World) : Calls Tryz.prog 104 #[.int .i64 x, .int .i64 y] w (RetS (.int .i64 (max x y)) w) := by
  by_cases h : y < x
  · have e : max x y = x := by omega
    have HE := Lib.hid e
    clear e
    go_enter Tryz.func104, Tryz.ntmps104
    go_wp2
    go_ret
    exact .mk (by rw [HE.out]; rfl)
  · have e : max x y = y := by omega
    have HE := Lib.hid e
    clear e
    go_enter Tryz.func104, Tryz.ntmps104
    go_wp2
    go_ret
    exact .mk (by rw [HE.out]; rfl)
end Go.Proofs.YtnpeojlhjbdjiaaGreatDoor
