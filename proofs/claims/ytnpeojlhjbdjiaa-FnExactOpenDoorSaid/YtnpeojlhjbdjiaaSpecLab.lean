/-
  Texts put together: SpecLab, SpecLab2. What each proves stands ahead of it.
-/
import Derived.Test.YtnpeojlhjbdjiaaPure
import Derived.Test.YtnpeojlhjbdjiaaMem
import Derived.Deep.QuietTactic
import Derived.BigQuiet
import Derived.IntWalk
/-
  Chapter 2 of the model: what its functions on labels answer.
-/
namespace Go.Proofs.Ytnpeojlhjbdjiaa
set_option maxRecDepth 100000
open Go.RowKit

theorem quiet_of_s {P : Program} {f : FuncId} {args : Array Value} {w : World} {n : Nat} {v : Value} (h : Calls P f args (w.drewN n) (RetS v (w.drewN n))) :
    Calls P f args (w.drewN n) fun e w'' => e = .returned v ∧ ∃ m, w'' = w.drewN m := h.mono fun _ _ ⟨he, hm⟩ => ⟨he, n, hm.symm⟩

set_option maxHeartbeats 1000000 in
theorem spec_labok (v : Value) (l : Lab) (w : World) (h : RdLab w v l) : Calls Try.prog 27 #[v] w (RetV (.bool (labOk l)) w) := by
  obtain ⟨A, n, c, rfl, hn, hl, hc, hm, ha⟩ := h
  have HN := Lib.hid hn
  clear hn hc hm
  cases hb : lvOk l.base
  · have HR := Lib.hid (labOk_base hb)
    go_enter Try.func27, Try.ntmps27
    go_wp2_with (go_at_call 53; refine (spec_ok _ _).mono ?_; rintro e w1 ⟨rfl, rfl⟩)
    go_ret
    exact .mk (by rw [HR.out]; rfl) (by go_grown)
  · by_cases h8 : n ≤ 8
    · have h8' : (n : Int) ≤ 8 := by omega
      go_enter Try.func27, Try.ntmps27
      go_wp2_with (go_at_call 53; refine (spec_ok _ _).mono ?_; rintro e w1 ⟨rfl, rfl⟩)
      go_loopw [3] (fun i wr => ∃ k : Nat, k ≤ n ∧ i = .int .i64 k ∧ OkLeft l.base l.parts k ∧ Below w.heap.size w wr ∧ w.heap.size < wr.heap.size ∧ wr.cell? ⟨w.heap.size, 0, none⟩ = some (.int .i64 l.base) ∧ wr.cell? ⟨w.heap.size, 1, none⟩ = some (.slice A n c)) (fun i _ => n - (intOf i).toNat)
      case atStart => exact ⟨0, by omega, rfl, .zero _ _, by go_grown, by simp, by simp, by simp⟩
      case round =>
        obtain ⟨k, hk, rfl, hs, hbel, hsz, cb, cs⟩ := hrel
        by_cases hlt : k < n
        · obtain ⟨b, o, x, y, rfl, hx, cx, cy⟩ := ptat (ha.below hbel) (k := k) (by have := HN.out; omega)
          have HX := Lib.hid hx
          clear hx
          cases h1 : hOk x
          · -- no handle
            have HR := Lib.hid (labOk_parts hb (by have := HN.out; omega) (hs.bad HX.out (.inl h1)))
            go_wp2
            go_quiet (first | (go_at_call 54; exact quiet_of_s (spec_handle _ _)) | (go_at_call 53; exact quiet_of_s (spec_ok _ _)))
            go_wp2
            go_ret
            exact .mk (by rw [HR.out]; rfl) (below_drewN (hbel.alloc hbel.size _) _)
          cases h2 : lvOk y
          · -- no level
            have HR := Lib.hid (labOk_parts hb (by have := HN.out; omega) (hs.bad HX.out (.inr (.inl h2))))
            go_wp2
            go_quiet (first | (go_at_call 54; exact quiet_of_s (spec_handle _ _)) | (go_at_call 53; exact quiet_of_s (spec_ok _ _)))
            go_wp2
            go_ret
            exact .mk (by rw [HR.out]; rfl) (below_drewN (hbel.alloc hbel.size _) _)
          by_cases h3 : y = l.base
          · -- the base
            have h3' : (y == l.base) = true := by simpa using h3
            have HR := Lib.hid (labOk_parts hb (by have := HN.out; omega) (hs.bad HX.out (.inr (.inr (.inl h3)))))
            clear h3
            go_wp2
            go_quiet (first | (go_at_call 54; exact quiet_of_s (spec_handle _ _)) | (go_at_call 53; exact quiet_of_s (spec_ok _ _)))
            go_wp2
            go_ret
            exact .mk (by rw [HR.out]; rfl) (below_drewN (hbel.alloc hbel.size _) _)
          have h3' : (y == l.base) = false := by simpa using h3
          by_cases hk0 : 0 < k
          · obtain ⟨m, rfl⟩ : ∃ m, k = m + 1 := ⟨k - 1, by omega⟩
            obtain ⟨b', o', x', y', he, hx', cx', cy'⟩ := ptat (ha.below hbel) (k := m) (by have := HN.out; omega)
            cases he
            have HP := Lib.hid (prevH_succ hx')
            clear hx' cy' hk0
            have e1 : IntKind.i64.wrap (m : Int) = m := IntWalk.i64_in _ (by omega)
            have e4 : m < n := by omega
            have hbw : b < wr.heap.size := block_lt_of_cell cx
            by_cases h4 : x ≤ x'
            · have h4' : decide (x ≤ x') = true := by simpa using h4
              have HR := Lib.hid (labOk_parts hb (by have := HN.out; omega) (hs.bad HX.out (.inr (.inr (.inr (by rw [HP.out]; exact h4))))))
              go_wp2
              go_quiet (first | (go_at_call 54; exact quiet_of_s (spec_handle _ _)) | (go_at_call 53; exact quiet_of_s (spec_ok _ _)))
              go_wp2
              go_ret
              exact .mk (by rw [HR.out]; rfl) (below_drewN (hbel.alloc hbel.size _) _)
            · have h4' : decide (x ≤ x') = false := by simpa using h4
              have HS := Lib.hid (hs.succ HX.out h1 h2 h3 (by rw [HP.out]; omega))
              clear h3
              go_wp2
              go_quiet (first | (go_at_call 54; exact quiet_of_s (spec_handle _ _)) | (go_at_call 53; exact quiet_of_s (spec_ok _ _)))
              go_wp2
              go_roundw
              case rel => exact ⟨m + 1 + 1, by omega, by go_num, HS.out, (below_drewN (hbel.alloc hbel.size _) _), by simp [World.drewN]; omega, by simp [go_sem, hsz, cb], by simp [go_sem, hsz, cs]⟩
              case measure => simp [intOf]; omega
          · have hk0' : decide (0 < k) = false := by simp at hk0 ⊢; omega
            clear hk0
            have HS := Lib.hid (hs.succ HX.out h1 h2 h3 (by obtain rfl : k = 0 := (by simp at hk0'; omega); have := of_hOk h1; simp only [prevH]; omega))
            clear h3
            go_wp2
            go_quiet (first | (go_at_call 54; exact quiet_of_s (spec_handle _ _)) | (go_at_call 53; exact quiet_of_s (spec_ok _ _)))
            go_wp2
            go_roundw
            case rel => exact ⟨k + 1, by omega, by go_num, HS.out, (below_drewN (hbel.alloc hbel.size _) _), by simp [World.drewN]; omega, by simp [go_sem, hsz, cb], by simp [go_sem, hsz, cs]⟩
            case measure => simp [intOf]; omega
        · have HR := Lib.hid (labOk_parts hb (by have := HN.out; omega) (hs.done (by have := HN.out; omega)))
          go_wp2
          go_ret
          exact .mk (by rw [HR.out]; rfl) hbel
    · have HR := Lib.hid (labOk_long (l := l) (by have := HN.out; omega))
      have h8' : (8 : Int) < n := by omega
      go_enter Try.func27, Try.ntmps27
      go_wp2_with (go_at_call 53; refine (spec_ok _ _).mono ?_; rintro e w1 ⟨rfl, rfl⟩)
      go_ret
      exact .mk (by rw [HR.out]; rfl) (by go_grown)
end Go.Proofs.Ytnpeojlhjbdjiaa

/-
  Chapter 2 of the model, more: Plain, LevelOf, HandlesOf.
-/
namespace Go.Proofs.Ytnpeojlhjbdjiaa
set_option maxRecDepth 100000
open Go.RowKit

theorem spec_plain (b : Int) (w : World) : Calls Try.prog 41 #[.int .i64 b] w (RetLab (plainL b) w) := by
  cases hb : lvOk b
  · have HR := Lib.hid (plainL_no hb)
    go_enter Try.func41, Try.ntmps41
    go_wp2_with (go_at_call 53; refine (spec_ok _ _).mono ?_; rintro e w1 ⟨rfl, rfl⟩)
    go_returns
    rw [HR.out]
    exact ⟨_, rfl, own_nil _ _ _, by go_grown⟩
  · have HR := Lib.hid (plainL_yes hb)
    go_enter Try.func41, Try.ntmps41
    go_wp2_with (go_at_call 53; refine (spec_ok _ _).mono ?_; rintro e w1 ⟨rfl, rfl⟩)
    go_returns
    rw [HR.out]
    exact ⟨_, rfl, own_nil _ _ _, by go_grown⟩
end Go.Proofs.Ytnpeojlhjbdjiaa
