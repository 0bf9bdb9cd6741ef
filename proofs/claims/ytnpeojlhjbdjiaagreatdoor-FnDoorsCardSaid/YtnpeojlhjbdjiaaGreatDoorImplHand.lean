/-
  Chapter 2 of the program: the handles of two labels: the keys of both, sorted, each once.
-/
import Derived.Test.YtnpeojlhjbdjiaaGreatDoorImplLab1
import Derived.Test.YtnpeojlhjbdjiaaGreatDoorSpecLab
import Derived.Test.YtnpeojlhjbdjiaaGreatDoorMem
import Derived.OwnWalk
import Derived.Deep.RegionHeld3
namespace Go.Proofs.YtnpeojlhjbdjiaaGreatDoor
set_option maxRecDepth 100000
open Go.RowKit

theorem nmcells_map (xs : List Int) : nmcells xs = xs.map (Value.int .i64) := by
  unfold nmcells flat
  induction xs with
  | nil => rfl
  | cons x xs ih => simp [ih, encInt64]

/-- The call writes a row of the caller's anew, and returns nothing. -/
def RetRowSet (t : TypeId) (base n : Nat) (v : Value) (xs : List Value) (w : World) (e : Ending) (w' : World) : Prop :=
  e = .returned (.tuple #[]) ∧ w'.ownsRow base t 1 v n xs ∧ w.grownBy w' v.ownBlock
theorem own_nonnil {w : World} {base : Nat} {e : TypeId} {n c : Nat} {A : Option Addr} {xs : List Value} (h : w.ownsRow base e 1 (.slice A n c) n xs) : (.slice A n c = Value.slice none 0 0) ∨ ∃ g, A = some ⟨g, 0, none⟩ := by
  rcases h.2 with ⟨e0, _⟩ | ⟨g, cap, cur, hv, _⟩
  · exact .inl e0
  · simp only [Value.slice.injEq] at hv; exact .inr ⟨g, hv.1⟩

/-- The call cuts a row of the caller's, and returns it. -/
def RetRowCut (t : TypeId) (base n : Nat) (v : Value) (xs : List Value) (w : World) (e : Ending) (w' : World) : Prop :=
  ∃ u, e = .returned u ∧ w'.ownsRow base t 1 u n xs ∧ w.grownBy w' v.ownBlock
set_option maxHeartbeats 1000000 in
theorem impl_keys (A : Option Addr) (n c : Nat) (ps : List (Int × Int)) (w : World) (ha : At w A (ptcells ps)) (hn : ps.length = n) (hl : n ≤ 1048576) :
    Calls Tryz.prog 92 #[.slice A n c] w (RetOwn 2 1 n (nmcells (ps.map (·.1))) w) := by
  have HN := Lib.hid hn
  clear hn
  obtain ⟨i0, hi, hz0, hz1, hz2⟩ := info_parts nminfo
  go_enter Tryz.func92, Tryz.ntmps92
  go_wp2_with (at_make; refine wpList_make_own _ rfl _ _ 93 rfl w.heap.size 2 i0 _ 1 Tryz.underlying93 hi hz0 hz1 .i64 .i64 _ n rfl rfl rfl (by rw [hz2]; omega) (by unfold maxLen; omega) (Nat.le_refl _) ?_; intro w1 hown hg)
  have HB1 : Below w.heap.size w w1 := (Below.refl _ _).grown hg (Nat.le_refl _) (fun k hk => by cases hk)
  clear hg
  go_loopw [3, 11] (fun s i wr => ∃ k : Nat, k ≤ n ∧ i = .int .i64 k ∧ wr.ownsRow w.heap.size 2 1 s k (nmcells ((ps.take k).map (·.1))) ∧ Below w.heap.size w wr) (fun _ i _ => n - (intOf i).toNat)
  case atStart => exact ⟨0, by omega, rfl, by simpa [nmcells, flat] using hown, HB1⟩
  case round =>
    clear hown HB1
    obtain ⟨k, hk, rfl, hown, hbel⟩ := hrel
    have HO := Lib.hid hown
    clear hown
    by_cases hlt : k < n
    · obtain ⟨b, o, x, y, rfl, hx, cx, cy⟩ := ptat (ha.below hbel) (k := k) (by have := HN.out; omega)
      have HX : Hid (nmcells ((ps.take (k + 1)).map (·.1)) = nmcells ((ps.take k).map (·.1)) ++ nmcells [x]) := Lib.hid (by rw [take_at hx, List.map_append, nmcells_append]; rfl)
      clear hx
      go_wp2_with (first
        | (go_at_call 127
           refine (impl_key _ _ _).mono ?_
           rintro e w2 ⟨rfl, hb0⟩
           have HB0 : Hid (Below wr.heap.size wr w2) := Lib.hid (over_alloc hb0)
           have hB : Hid (Below w.heap.size w w2) := Lib.hid (below_more hbel HB0.out)
           have HO2 := Lib.hid (own_below HO.out HB0.out)
           clear hb0)
        | (at_builtin
           refine wpList_app elemInt rfl (.tmp 15) (.tmp 19) rfl w.heap.size _ k _ rfl (HO2.out.alloc _) (some ⟨w2.heap.size, 0, none⟩) 1 1 (nmcells [x]) rfl (At.one fun j u hj => by rw [World.cell?_alloc_new]; simpa [nmcells, flat, encInt64] using hj) rfl (nmcells_one [x]) (by omega) (by omega) (by have := hB.out.size; simp; omega) ?_
           intro v3 w3 hap
           have HP := Lib.hid hap
           have HB3 : Hid (Below w.heap.size w w3) := Lib.hid ((hB.out.alloc hB.out.size _).grown hap.grown (by have := hB.out.size; simp; omega) (fun j hj => (HO2.out.lt j hj).1))
           clear hap))
      go_roundw
      case rel => exact ⟨k + 1, by omega, by go_num, by rw [HX.out]; exact HP.out.own, HB3.out⟩
      case measure => simp [intOf]; omega
    · obtain rfl : k = n := by omega
      go_wp2
      go_ret
      exact ⟨_, rfl, by have h := HO.out; rwa [List.take_of_length_le (by have := HN.out; omega)] at h, hbel⟩

end Go.Proofs.YtnpeojlhjbdjiaaGreatDoor
