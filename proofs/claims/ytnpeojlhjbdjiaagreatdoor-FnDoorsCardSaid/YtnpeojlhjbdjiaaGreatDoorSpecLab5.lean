/-
  Chapter 2 of the model, more: With at every argument.
-/
import Derived.Test.YtnpeojlhjbdjiaaGreatDoorSpecLab4
namespace Go.Proofs.YtnpeojlhjbdjiaaGreatDoor
set_option maxRecDepth 100000
open Go.RowKit

theorem spec_with (v : Value) (l : Lab) (h lv : Int) (w : World) (hr : RdLab w v l) :
    Calls Tryz.prog 18 #[v, .int .i64 h, .int .i64 lv] w (RetLab2 (withLabel l h lv).1 (withLabel l h lv).2 w) := by
  have hr0 := hr
  obtain ⟨A, n, c, rfl, -⟩ := hr
  cases hb : labOk l
  · have HR := Lib.hid (withLabel_no (h := h) (v := lv) (.inl hb))
    go_enter Tryz.func18, Tryz.ntmps18
    go_wp2_with fail
    refine (spec_labok _ l _ ((hr0.alloc _).alloc _)).mono ?_
    rintro e w1 ⟨rfl, hb1⟩
    obtain ⟨⟨c0, c1⟩, ⟨c2, c3⟩, hz, hbel⟩ := box4 hb1
    have g2 : w1.frozen? ⟨w.heap.size + 1, 0, none⟩ = false := (hb1.frozen (by simp)).trans (by simp [go_sem])
    have g3 : w1.frozen? ⟨w.heap.size + 1, 1, none⟩ = false := (hb1.frozen (by simp)).trans (by simp [go_sem])
    clear hb1
    go_wp2_with (first | (go_at_call 41; refine (spec_handle _ _).mono ?_; rintro e w1 ⟨rfl, rfl⟩) | (go_at_call 42; refine (spec_ok _ _).mono ?_; rintro e w1 ⟨rfl, rfl⟩))
    refine bodyPost_ret (v := .tuple #[.agg #[.int .i64 0, .slice none 0 0], .bool false]) (by simp [results, Tryz.results18, go_sem, c2, c3]) rfl ?_
    rw [HR.out]
    exact ⟨_, rfl, own_nil _ _ _, (hbel.setCell (by simp only []; omega) _).setCell (by simp only []; omega) _⟩
  cases hh : hOk h
  · have HR := Lib.hid (withLabel_no (l := l) (v := lv) (.inr (.inl hh)))
    go_enter Tryz.func18, Tryz.ntmps18
    go_wp2_with fail
    refine (spec_labok _ l _ ((hr0.alloc _).alloc _)).mono ?_
    rintro e w1 ⟨rfl, hb1⟩
    obtain ⟨⟨c0, c1⟩, ⟨c2, c3⟩, hz, hbel⟩ := box4 hb1
    have g2 : w1.frozen? ⟨w.heap.size + 1, 0, none⟩ = false := (hb1.frozen (by simp)).trans (by simp [go_sem])
    have g3 : w1.frozen? ⟨w.heap.size + 1, 1, none⟩ = false := (hb1.frozen (by simp)).trans (by simp [go_sem])
    clear hb1
    go_wp2_with (first | (go_at_call 41; refine (spec_handle _ _).mono ?_; rintro e w1 ⟨rfl, rfl⟩) | (go_at_call 42; refine (spec_ok _ _).mono ?_; rintro e w1 ⟨rfl, rfl⟩))
    refine bodyPost_ret (v := .tuple #[.agg #[.int .i64 0, .slice none 0 0], .bool false]) (by simp [results, Tryz.results18, go_sem, c2, c3]) rfl ?_
    rw [HR.out]
    exact ⟨_, rfl, own_nil _ _ _, (hbel.setCell (by simp only []; omega) _).setCell (by simp only []; omega) _⟩
  cases hv : lvOk lv
  · have HR := Lib.hid (withLabel_no (l := l) (h := h) (.inr (.inr hv)))
    go_enter Tryz.func18, Tryz.ntmps18
    go_wp2_with fail
    refine (spec_labok _ l _ ((hr0.alloc _).alloc _)).mono ?_
    rintro e w1 ⟨rfl, hb1⟩
    obtain ⟨⟨c0, c1⟩, ⟨c2, c3⟩, hz, hbel⟩ := box4 hb1
    have g2 : w1.frozen? ⟨w.heap.size + 1, 0, none⟩ = false := (hb1.frozen (by simp)).trans (by simp [go_sem])
    have g3 : w1.frozen? ⟨w.heap.size + 1, 1, none⟩ = false := (hb1.frozen (by simp)).trans (by simp [go_sem])
    clear hb1
    go_wp2_with (first | (go_at_call 41; refine (spec_handle _ _).mono ?_; rintro e w1 ⟨rfl, rfl⟩) | (go_at_call 42; refine (spec_ok _ _).mono ?_; rintro e w1 ⟨rfl, rfl⟩))
    refine bodyPost_ret (v := .tuple #[.agg #[.int .i64 0, .slice none 0 0], .bool false]) (by simp [results, Tryz.results18, go_sem, c2, c3]) rfl ?_
    rw [HR.out]
    exact ⟨_, rfl, own_nil _ _ _, (hbel.setCell (by simp only []; omega) _).setCell (by simp only []; omega) _⟩
  · have HR := Lib.hid (withLabel_yes hb hh hv)
    go_enter Tryz.func18, Tryz.ntmps18
    go_wp2_with fail
    refine (spec_labok _ l _ ((hr0.alloc _).alloc _)).mono ?_
    rintro e w1 ⟨rfl, hb1⟩
    obtain ⟨⟨c0, c1⟩, ⟨c2, c3⟩, hz, hbel⟩ := box4 hb1
    have g2 : w1.frozen? ⟨w.heap.size + 1, 0, none⟩ = false := (hb1.frozen (by simp)).trans (by simp [go_sem])
    have g3 : w1.frozen? ⟨w.heap.size + 1, 1, none⟩ = false := (hb1.frozen (by simp)).trans (by simp [go_sem])
    have hr1 := hr0.below hbel
    clear hb1
    go_wp2_with (first | (go_at_call 41; refine (spec_handle _ _).mono ?_; rintro e w1 ⟨rfl, rfl⟩) | (go_at_call 42; refine (spec_ok _ _).mono ?_; rintro e w1 ⟨rfl, rfl⟩))
    refine (spec_with0 _ l h lv _ hr1 (labOk_short hb)).mono ?_
    rintro e w2 ⟨v2, rfl, hown2, hb2⟩
    have e2 := (hb2.cell (p := ⟨w.heap.size + 1, 0, none⟩) (by simp only []; omega)).trans c2
    have e3 := (hb2.cell (p := ⟨w.heap.size + 1, 1, none⟩) (by simp only []; omega)).trans c3
    have f2 := (hb2.frozen (p := ⟨w.heap.size + 1, 0, none⟩) (by simp only []; omega)).trans g2
    have f3 := (hb2.frozen (p := ⟨w.heap.size + 1, 1, none⟩) (by simp only []; omega)).trans g3
    have hbel2 := below_more hbel hb2
    obtain ⟨A2, n2, k2, rfl, hn2, hl2, ho2⟩ := hown2
    have HN2 := Lib.hid hn2
    have HO2 := Lib.hid ho2
    clear hb2 hn2 ho2 c2 c3 g2 g3
    go_wp2
    refine bodyPost_ret (v := .tuple #[.agg #[.int .i64 (withL l h lv).1.base, .slice A2 n2 k2], .bool (withL l h lv).2]) (by simp [results, Tryz.results18, go_sem, e2, e3]) rfl ?_
    rw [HR.out]
    exact ⟨_, rfl, ⟨A2, n2, k2, rfl, HN2.out, hl2, own_lower (base := w1.heap.size) (by repeat (first | exact HO2.out | refine ownsRow_setCell_below ?_ (by simp only []; omega) _)) (by omega)⟩, (hbel2.setCell (by simp only []; omega) _).setCell (by simp only []; omega) _⟩
end Go.Proofs.YtnpeojlhjbdjiaaGreatDoor
