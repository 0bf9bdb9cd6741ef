/-
  What the draws of chapter 6 hand out: numbers, whatever they are.
-/
import Derived.Test.YtnpeojlhjbdjiaaGreatDoorCur
namespace Go.Proofs.YtnpeojlhjbdjiaaGreatDoor
set_option maxRecDepth 100000
open Go.RowKit

def DrNum2 (w : World) (e : Ending) (w' : World) : Prop := ∃ x y, e = .returned (.tuple #[.int .i64 x, .int .i64 y]) ∧ Below w.heap.size w w'
theorem draw_makerof (a : Option Addr) (len cap : Nat) (zs : List Int) (w : World) (hl : len ≤ 4096) (hr : IsRow .u8 w a len cap zs) : Calls Tryz.prog 24 #[.slice a len cap] w (DrI64 w) := by
  go_enter Tryz.func24, Tryz.ntmps24
  go_wp2_with fail
  refine (new_any a len cap zs _ hl hr).mono ?_
  rintro e w1 ⟨p, hp, rfl, hc1, hb1⟩
  go_wp2_with fail
  refine (once_any p a len cap zs 3 _ hl (by omega) (by omega) hc1 (CurRow.start hr hb1 hp)).mono ?_
  rintro e w2 ⟨b, rfl, hc2, hg2⟩
  have hb2 := gb_below hb1 hg2 hp
  cases b
  · go_wp2_with fail
    refine (below_any p a len cap zs _ _ hl (by omega) (by omega) hc2 (CurRow.start hr hb2 hp)).mono ?_
    rintro e w3 ⟨x, hx0, hx1, rfl, hc3, hg3⟩
    have hb3 := gb_below hb2 hg3 hp
    go_wp2_with fail
    refine (below_any p a len cap zs _ _ hl (by omega) (by omega) hc3 (CurRow.start hr hb3 hp)).mono ?_
    rintro e w4 ⟨y, hy0, hy1, rfl, hc4, hg4⟩
    go_wp2
    go_ret
    exact ⟨_, by unfold InI64; omega, rfl, gb_below hb3 hg4 hp⟩
  · go_wp2_with fail
    refine (num_in p a len cap zs _ _ hl (by omega) (by omega) hc2 (CurRow.start hr hb2 hp)).mono ?_
    rintro e w3 ⟨x, hx, rfl, hc3, hg3⟩
    go_wp2
    go_ret
    exact ⟨x, hx, rfl, gb_below hb2 hg3 hp⟩
end Go.Proofs.YtnpeojlhjbdjiaaGreatDoor
