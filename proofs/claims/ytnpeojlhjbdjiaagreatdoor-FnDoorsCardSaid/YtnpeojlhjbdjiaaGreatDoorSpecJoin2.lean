/-
  Chapter 3 of the model: Join, Meet, at every argument.
-/
import Derived.Test.YtnpeojlhjbdjiaaGreatDoorSpecBothMax
import Derived.Test.YtnpeojlhjbdjiaaGreatDoorSpecBothMin
namespace Go.Proofs.YtnpeojlhjbdjiaaGreatDoor
set_option maxRecDepth 100000
open Go.RowKit

set_option maxHeartbeats 1000000 in
theorem spec_join (v u : Value) (l m : Lab) (w : World) (hr : RdLab w v l) (hq : RdLab w u m) :
    Calls Tryz.prog 96 #[v, u] w (RetLab2 (joinL l m).1 (joinL l m).2 w) := by
  have hr0 := hr
  have hq0 := hq
  obtain ⟨A, n, c, rfl, -⟩ := hr
  obtain ⟨B, n', d, rfl, -⟩ := hq
  cases hl : labOk l
  · have HR := Lib.hid (joinL_no (m := m) (.inl hl))
    go_enter Tryz.func96, Tryz.ntmps96
    go_wp2_with fail
    refine (spec_labok _ l _ (((hr0.alloc _).alloc _).alloc _)).mono ?_
    rintro e w1 ⟨rfl, hb1⟩
    obtain ⟨⟨c0, c1⟩, ⟨c2, c3⟩, ⟨r0, r1⟩, hz, hbel⟩ := box6 hb1
    have q0 : w1.frozen? ⟨w.heap.size + 1 + 1, 0, none⟩ = false := (hb1.frozen (by simp)).trans (by simp [go_sem])
    have q1 : w1.frozen? ⟨w.heap.size + 1 + 1, 1, none⟩ = false := (hb1.frozen (by simp)).trans (by simp [go_sem])
    clear hb1
    go_wp2
    refine bodyPost_ret (v := .tuple #[.agg #[.int .i64 0, .slice none 0 0], .bool false]) (by simp [results, Tryz.results96, go_sem, r0, r1]) rfl ?_
    rw [HR.out]
    exact ⟨_, rfl, own_nil _ _ _, (hbel.setCell (by simp only []; omega) _).setCell (by simp only []; omega) _⟩
  · cases hm : labOk m
    · have HR := Lib.hid (joinL_no (l := l) (.inr hm))
      go_enter Tryz.func96, Tryz.ntmps96
      go_wp2_with fail
      refine (spec_labok _ l _ (((hr0.alloc _).alloc _).alloc _)).mono ?_
      rintro e w1 ⟨rfl, hb1⟩
      obtain ⟨⟨c0, c1⟩, ⟨c2, c3⟩, ⟨r0, r1⟩, hz, hbel⟩ := box6 hb1
      have q0 : w1.frozen? ⟨w.heap.size + 1 + 1, 0, none⟩ = false := (hb1.frozen (by simp)).trans (by simp [go_sem])
      have q1 : w1.frozen? ⟨w.heap.size + 1 + 1, 1, none⟩ = false := (hb1.frozen (by simp)).trans (by simp [go_sem])
      have hq1 := hq0.below hbel
      clear hb1
      go_wp2_with fail
      refine (spec_labok _ m _ hq1).mono ?_
      rintro e w2 ⟨rfl, hb2⟩
      have e0 := (hb2.cell (p := ⟨w.heap.size + 1 + 1, 0, none⟩) hz).trans r0
      have e1 := (hb2.cell (p := ⟨w.heap.size + 1 + 1, 1, none⟩) hz).trans r1
      have f0 := (hb2.frozen (p := ⟨w.heap.size + 1 + 1, 0, none⟩) hz).trans q0
      have f1 := (hb2.frozen (p := ⟨w.heap.size + 1 + 1, 1, none⟩) hz).trans q1
      have hbel2 := below_more hbel hb2
      clear hb2 r0 r1 q0 q1
      go_wp2
      refine bodyPost_ret (v := .tuple #[.agg #[.int .i64 0, .slice none 0 0], .bool false]) (by simp [results, Tryz.results96, go_sem, e0, e1]) rfl ?_
      rw [HR.out]
      exact ⟨_, rfl, own_nil _ _ _, (hbel2.setCell (by simp only []; omega) _).setCell (by simp only []; omega) _⟩
    · have HR := Lib.hid (joinL_yes hl hm)
      have s1 := labOk_short hl
      have s2 := labOk_short hm
      go_enter Tryz.func96, Tryz.ntmps96
      go_wp2_with fail
      refine (spec_labok _ l _ (((hr0.alloc _).alloc _).alloc _)).mono ?_
      rintro e w1 ⟨rfl, hb1⟩
      obtain ⟨⟨c0, c1⟩, ⟨c2, c3⟩, ⟨r0, r1⟩, hz, hbel⟩ := box6 hb1
      have q0 : w1.frozen? ⟨w.heap.size + 1 + 1, 0, none⟩ = false := (hb1.frozen (by simp)).trans (by simp [go_sem])
      have q1 : w1.frozen? ⟨w.heap.size + 1 + 1, 1, none⟩ = false := (hb1.frozen (by simp)).trans (by simp [go_sem])
      have BL := Lib.hid (Has.new2 (over_alloc hb1))
      have BM := Lib.hid (Has.new3 (over_alloc hb1))
      have hq1 := hq0.below hbel
      clear hb1
      go_wp2_with fail
      refine (spec_labok _ m _ hq1).mono ?_
      rintro e w2 ⟨rfl, hb2⟩
      have e0 := (hb2.cell (p := ⟨w.heap.size + 1 + 1, 0, none⟩) hz).trans r0
      have e1 := (hb2.cell (p := ⟨w.heap.size + 1 + 1, 1, none⟩) hz).trans r1
      have f0 := (hb2.frozen (p := ⟨w.heap.size + 1 + 1, 0, none⟩) hz).trans q0
      have f1 := (hb2.frozen (p := ⟨w.heap.size + 1 + 1, 1, none⟩) hz).trans q1
      have hbel2 := below_more hbel hb2
      have k0 := BL.out.below hb2 0 _ rfl
      have k1 := BL.out.below hb2 1 _ rfl
      have k2 := BM.out.below hb2 0 _ rfl
      have k3 := BM.out.below hb2 1 _ rfl
      clear r0 r1 q0 q1 c0 c1 c2 c3
      have hsz2 := hb2.size
      go_wp2_with fail
      refine (spec_both_max _ _ l m _ (hr0.below hbel2) (hq0.below hbel2) (by omega)).mono ?_
      rintro e w3 ⟨v3, rfl, hown, hb3⟩
      have e0' := (hb3.cell (p := ⟨w.heap.size + 1 + 1, 0, none⟩) (by simp only []; omega)).trans e0
      have e1' := (hb3.cell (p := ⟨w.heap.size + 1 + 1, 1, none⟩) (by simp only []; omega)).trans e1
      have f0' := (hb3.frozen (p := ⟨w.heap.size + 1 + 1, 0, none⟩) (by simp only []; omega)).trans f0
      have f1' := (hb3.frozen (p := ⟨w.heap.size + 1 + 1, 1, none⟩) (by simp only []; omega)).trans f1
      have hbel3 := below_more hbel2 hb3
      obtain ⟨A3, n3, c3, rfl, hn3, hl3, ho3⟩ := hown
      have HN3 := Lib.hid hn3
      have HO3 := Lib.hid ho3
      clear hb2 hb3 e0 e1 f0 f1 hn3 ho3
      go_wp2
      refine bodyPost_ret (v := .tuple #[.agg #[.int .i64 (bothL max l m).1.base, .slice A3 n3 c3], .bool (bothL max l m).2]) (by simp [results, Tryz.results96, go_sem, e0', e1']) rfl ?_
      rw [HR.out]
      exact ⟨_, rfl, ⟨A3, n3, c3, rfl, HN3.out, hl3, own_lower (ownsRow_setCell_below (ownsRow_setCell_below HO3.out (by simp only []; omega) _) (by simp only []; omega) _) (by omega)⟩, (hbel3.setCell (by simp only []; omega) _).setCell (by simp only []; omega) _⟩
end Go.Proofs.YtnpeojlhjbdjiaaGreatDoor
