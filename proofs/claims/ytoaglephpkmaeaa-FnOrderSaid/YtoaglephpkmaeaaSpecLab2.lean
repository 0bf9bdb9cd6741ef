/-
  Chapter 2 of the model, more: Plain, LevelOf, HandlesOf.
-/
import Derived.Test.YtoaglephpkmaeaaSpecLab
namespace Go.Proofs.Ytoaglephpkmaeaa
set_option maxRecDepth 100000
open Go.RowKit

theorem spec_lev (v : Value) (l : Lab) (h : Int) (w : World) (hr : RdLab w v l) : Calls Try.prog 48 #[v, .int .i64 h] w (RetV (.int .i64 (lev l h)) w) := by
  obtain ⟨A, n, c, rfl, hn, hl, hc, hm, ha⟩ := hr
  have HN := Lib.hid hn
  clear hn hc hm
  go_enter Try.func48, Try.ntmps48
  go_wp2
  go_loopw [5] (fun i wr => ∃ k : Nat, k ≤ n ∧ i = .int .i64 k ∧ LevLeft l.base h l.parts k ∧ Below w.heap.size w wr ∧ wr.cell? ⟨w.heap.size, 0, none⟩ = some (.int .i64 l.base) ∧ wr.cell? ⟨w.heap.size, 1, none⟩ = some (.slice A n c)) (fun i _ => n - (intOf i).toNat)
  case atStart => exact ⟨0, by omega, rfl, .zero _ _ _, by go_grown, by simp, by simp⟩
  case round =>
    obtain ⟨k, hk, rfl, hs, hbel, cb, cs⟩ := hrel
    by_cases hlt : k < n
    · obtain ⟨b, o, x, y, rfl, hx, cx, cy⟩ := ptat (ha.below hbel) (k := k) (by have := HN.out; omega)
      by_cases he : x = h
      · subst he
        have HR := Lib.hid (show lev l x = y from hs.hit hx)
        clear hx hs ha
        go_wp2
        all_goals (try (go_region; go_wp2))
        go_ret
        exact .mk (by rw [HR.out]; rfl) (by repeat (first | exact hbel | apply Below.drew))
      · have HS := Lib.hid (hs.succ hx he)
        have he' : (x == h) = false := by simpa using he
        clear hx hs ha he
        go_wp2
        all_goals (try (go_region; go_wp2))
        go_roundw
        case rel => exact ⟨k + 1, by omega, by go_num, HS.out, by repeat (first | exact hbel | apply Below.drew), by simpa using cb, by simpa using cs⟩
        case measure => simp [intOf]; omega
    · have HR := Lib.hid (show lev l h = l.base from hs.done (by have := HN.out; omega))
      go_wp2
      go_ret
      exact .mk (by rw [HR.out]; rfl) hbel

end Go.Proofs.Ytoaglephpkmaeaa
