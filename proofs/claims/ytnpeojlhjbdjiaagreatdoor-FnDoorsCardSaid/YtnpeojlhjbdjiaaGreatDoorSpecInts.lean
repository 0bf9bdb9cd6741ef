/-
  Copies of rows of numbers in the model.
-/
import Derived.Test.YtnpeojlhjbdjiaaGreatDoorMem
import Derived.Test.YtnpeojlhjbdjiaaGreatDoorFlInt64
import Derived.WalkSpells
import Derived.Deep.RegionHeld3
namespace Go.Proofs.YtnpeojlhjbdjiaaGreatDoor
set_option maxRecDepth 100000
open Go.RowKit

theorem elemInt : Elem Tryz.prog 93 2 1 8 := .of_info nminfo Tryz.underlying93 rfl (by omega)

theorem spec_copy (A : Option Addr) (n c : Nat) (xs : List Int) (w : World) (ha : At w A (nmcells xs)) (hn : xs.length = n) (hl : n ≤ 1048576) :
    Calls Tryz.prog 108 #[.slice A n c] w (RetOwn 2 1 n (nmcells xs) w) := by
  have HN := Lib.hid hn
  clear hn
  go_enter Tryz.func108, Tryz.ntmps108
  go_wp2_with (at_builtin; refine wpList_app elemInt rfl (.tmp 3) (.tmp 4) rfl w.heap.size (.slice (some ⟨w.heap.size, 0, none⟩) 0 0) 0 [] rfl (World.ownsRow_lit w #[] 0 (Nat.le_refl _) (by simp [maxLen]) rfl) A n c (nmcells xs) rfl (ha.alloc _) (by rw [nmcells_length, HN.out]) (nmcells_one xs) (by omega) (by omega) (by simp) ?_; intro v1 w1 hap)
  go_ret
  refine ⟨v1, rfl, by simpa using hap.own, ?_⟩
  exact ((Below.refl _ _).alloc (Nat.le_refl _) _).grown hap.grown (by simp) (fun k hk => by simp [Value.ownBlock] at hk; omega)
end Go.Proofs.YtnpeojlhjbdjiaaGreatDoor
