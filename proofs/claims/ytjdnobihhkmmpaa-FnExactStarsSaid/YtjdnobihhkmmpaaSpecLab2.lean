/-
  Chapter 2 of the model, more: Plain, LevelOf, HandlesOf.
-/
import Derived.Test.YtjdnobihhkmmpaaSpecLab
namespace Go.Proofs.Ytjdnobihhkmmpaa
set_option maxRecDepth 100000
open Go.RowKit

theorem spec_plain (b : Int) (w : World) : Calls Try.prog 17 #[.int .i64 b] w (RetLab (plainL b) w) := by
  cases hb : lvOk b
  · have HR := Lib.hid (plainL_no hb)
    go_enter Try.func17, Try.ntmps17
    go_wp2_with (go_at_call 42; refine (spec_ok _ _).mono ?_; rintro e w1 ⟨rfl, rfl⟩)
    go_returns
    rw [HR.out]
    exact ⟨_, rfl, own_nil _ _ _, by go_grown⟩
  · have HR := Lib.hid (plainL_yes hb)
    go_enter Try.func17, Try.ntmps17
    go_wp2_with (go_at_call 42; refine (spec_ok _ _).mono ?_; rintro e w1 ⟨rfl, rfl⟩)
    go_returns
    rw [HR.out]
    exact ⟨_, rfl, own_nil _ _ _, by go_grown⟩
theorem spec_lev (v : Value) (l : Lab) (h : Int) (w : World) (hr : RdLab w v l) : Calls Try.prog 40 #[v, .int .i64 h] w (RetV (.int .i64 (lev l h)) w) := by
  obtain ⟨A, n, c, rfl, hn, hl, hc, hm, ha⟩ := hr
  have HN := Lib.hid hn
  clear hn hc hm
  go_enter Try.func40, Try.ntmps40
  go_wp2
  go_loopw [5] (fun i wr => ∃ k : Nat, k ≤ n ∧ i = .int .i64 k ∧ LevLeft l.base h l.parts k ∧ Below w.heap.size w wr ∧ wr.cell? ⟨w.heap.size, 0, none⟩ = some (.int .i64 l.base) ∧ wr.cell? ⟨w.heap.size, 1, none⟩ = some (.slice A n c)) (fun i _ => n - (intOf i).toNat)
  case atStart => exact ⟨0, by omega, rfl, .zero _ _ _, by go_grown, by simp, by simp⟩
  case round =>
    obtain ⟨k, hk, rfl, hs, hbel, cb, cs⟩ := hrel
    by_cases hlt : k < n
    · obtain ⟨b, o, x, y, rfl, hx, cx, cy⟩ := ptat (ha.below hbel) (k := k) (by have := HN.out; omega)
      by_cases he : x = h
      · subst he
        have HR := Lib.hid (show lev l x = y from hs.hit hx)
        clear hx hs ha
        go_wp2
        all_goals (try (go_region; go_wp2))
        go_ret
        exact .mk (by rw [HR.out]; rfl) (by repeat (first | exact hbel | apply Below.drew))
      · have HS := Lib.hid (hs.succ hx he)
        have he' : (x == h) = false := by simpa using he
        clear hx hs ha he
        go_wp2
        all_goals (try (go_region; go_wp2))
        go_roundw
        case rel => exact ⟨k + 1, by omega, by go_num, HS.out, by repeat (first | exact hbel | apply Below.drew), by simpa using cb, by simpa using cs⟩
        case measure => simp [intOf]; omega
    · have HR := Lib.hid (show lev l h = l.base from hs.done (by have := HN.out; omega))
      go_wp2
      go_ret
      exact .mk (by rw [HR.out]; rfl) hbel

theorem spec_levelof (v : Value) (l : Lab) (h : Int) (w : World) (hr : RdLab w v l) : Calls Try.prog 15 #[v, .int .i64 h] w (RetV (.int .i64 (levelOf l h)) w) := by
  have hr0 := hr
  obtain ⟨A, n, c, rfl, -⟩ := hr
  cases hb : labOk l
  · have HR := Lib.hid (levelOf_no (h := h) (.inl hb))
    go_enter Try.func15, Try.ntmps15
    go_wp2_with fail
    refine (spec_labok _ l _ (hr0.alloc _)).mono ?_
    rintro e w1 ⟨rfl, hb1⟩
    go_wp2
    go_ret
    exact .mk (by rw [HR.out]; rfl) (box2 hb1).2.2.2
  · cases hh : hOk h
    · have HR := Lib.hid (levelOf_no (l := l) (.inr hh))
      go_enter Try.func15, Try.ntmps15
      go_wp2_with fail
      refine (spec_labok _ l _ (hr0.alloc _)).mono ?_
      rintro e w1 ⟨rfl, hb1⟩
      go_wp2_with (go_at_call 39; refine (spec_handle _ _).mono ?_; rintro e w1 ⟨rfl, rfl⟩)
      go_ret
      exact .mk (by rw [HR.out]; rfl) (box2 hb1).2.2.2
    · have HR := Lib.hid (levelOf_yes hb hh)
      go_enter Try.func15, Try.ntmps15
      go_wp2_with fail
      refine (spec_labok _ l _ (hr0.alloc _)).mono ?_
      rintro e w1 ⟨rfl, hb1⟩
      obtain ⟨c0, c1, hz, hbel⟩ := box2 hb1
      have hr1 := hr0.below hbel
      clear hb1 hr0
      go_wp2_with (go_at_call 39; refine (spec_handle _ _).mono ?_; rintro e w1 ⟨rfl, rfl⟩)
      refine (spec_lev _ l h _ hr1).mono ?_
      rintro e w2 ⟨rfl, hb2⟩
      go_wp2
      go_ret
      exact .mk (by rw [HR.out]; rfl) (below_more hbel hb2)
end Go.Proofs.Ytjdnobihhkmmpaa
