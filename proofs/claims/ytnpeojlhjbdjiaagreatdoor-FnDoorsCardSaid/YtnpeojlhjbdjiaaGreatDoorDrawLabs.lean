/-
  Texts put together: DrawLabs, DrawLabs2, DrawLabs3. What each proves stands ahead of it.
-/
import Derived.Test.YtnpeojlhjbdjiaaGreatDoorDrawAny
import Derived.Test.YtnpeojlhjbdjiaaGreatDoorHas
import Derived.Deep.RegionHeld3
import Derived.Deep.RegionWith
/-
  What the draws of chapter 2 hand out: labels and numbers, whatever they are; nothing that was there is written.
-/
namespace Go.Proofs.YtnpeojlhjbdjiaaGreatDoor
set_option maxRecDepth 100000
open Go.RowKit



end Go.Proofs.YtnpeojlhjbdjiaaGreatDoor

/-
  What the draws of chapter 2 hand out, more: a label and numbers.
-/
namespace Go.Proofs.YtnpeojlhjbdjiaaGreatDoor
set_option maxRecDepth 100000
open Go.RowKit

theorem OwnLab.alloc {base : Nat} {w : World} {v : Value} {l : Lab} (h : OwnLab base w v l) (o : Obj) : OwnLab base (w.alloc o) v l := h.below ((Below.refl _ _).alloc (Nat.le_refl _) o)
theorem pick7 {k : Nat} {x0 x1 x2 x3 x4 x5 x6 : Int} (hk : k < 7) : ∃ tv : Int, (#[Value.int .i64 x0, .int .i64 x1, .int .i64 x2, .int .i64 x3, .int .i64 x4, .int .i64 x5, .int .i64 x6] : Array Value)[k]? = some (.int .i64 tv) := by
  match k, hk with
  | 0, _ => exact ⟨_, rfl⟩
  | 1, _ => exact ⟨_, rfl⟩
  | 2, _ => exact ⟨_, rfl⟩
  | 3, _ => exact ⟨_, rfl⟩
  | 4, _ => exact ⟨_, rfl⟩
  | 5, _ => exact ⟨_, rfl⟩
  | 6, _ => exact ⟨_, rfl⟩

end Go.Proofs.YtnpeojlhjbdjiaaGreatDoor

/-
  What the draws of chapter 2 hand out, more: a label and two numbers.
-/
namespace Go.Proofs.YtnpeojlhjbdjiaaGreatDoor
set_option maxRecDepth 100000
open Go.RowKit
end Go.Proofs.YtnpeojlhjbdjiaaGreatDoor
