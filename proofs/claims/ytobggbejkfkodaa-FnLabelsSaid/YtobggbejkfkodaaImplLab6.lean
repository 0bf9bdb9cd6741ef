/-
  Chapter 2 of the program: the label with a level; With.
-/
import Derived.Test.YtobggbejkfkodaaImplLab5
namespace Go.Proofs.Ytobggbejkfkodaa
set_option maxRecDepth 100000
open Go.RowKit

set_option maxHeartbeats 2000000 in
theorem impl_with0 (v : Value) (l : Lab) (h lv : Int) (w : World) (hr : RdLab w v l) (hri : Rises (-1) l.parts) (h8 : l.parts.length ≤ 8) :
    Calls Try.prog 48 #[v, .int .i64 h, .int .i64 lv] w (RetLab ⟨l.base, withGo h lv (decide (lv = l.base)) l.parts⟩ w) := by
  obtain ⟨A, n, c, rfl, hn, hl, hc, hm, ha⟩ := hr
  have HA := Lib.hid ha
  by_cases hb : lv = l.base
  · have HR : Hid (withGo h lv (decide (lv = l.base)) l.parts = woList h l.parts) := Lib.hid (by rw [decide_eq_true hb]; exact withGo_without hri)
    have hb1 : (lv == l.base) = true := by simpa using hb
    have HL : Hid ((woList h l.parts).length ≤ 1048576) := Lib.hid (by have := woList_length h l.parts; omega)
    have HW := Lib.hid (fun w1 ha1 => impl_without A n c l.parts h w1 ha1 hn (by omega) hc hm)
    clear hb hri h8 hn hc hm ha
    go_enter Try.func48, Try.ntmps48
    go_wp2
    go_region_held3 (fun w' => w'.cell? ⟨w.heap.size, 0, none⟩ = some (.int .i64 l.base) ∧ w'.cell? ⟨w.heap.size, 1, none⟩ = some (.slice A n c))
      (first | exact ⟨f0, f1⟩ | go_keep)
      (first
        | (go_at_call 50
           refine (impl_parts _ _ _ _ _).mono ?_
           rintro e w3 ⟨rfl, hb3⟩
           have f0 : w3.cell? ⟨w.heap.size, 0, none⟩ = some (.int .i64 l.base) := (hb3.cell (by simp; omega)).trans (by simp [go_sem])
           have f1 : w3.cell? ⟨w.heap.size, 1, none⟩ = some (.slice A n c) := (hb3.cell (by simp; omega)).trans (by simp [go_sem])
           have r0 : w3.cell? ⟨w.heap.size + 1, 0, none⟩ = some (.int .i64 0) := (hb3.cell (by simp)).trans (by simp [go_sem])
           have r1 : w3.cell? ⟨w.heap.size + 1, 1, none⟩ = some (.slice none 0 0) := (hb3.cell (by simp)).trans (by simp [go_sem])
           have g0 : w3.frozen? ⟨w.heap.size + 1, 0, none⟩ = false := (hb3.frozen (by simp)).trans (by simp [go_sem])
           have g1 : w3.frozen? ⟨w.heap.size + 1, 1, none⟩ = false := (hb3.frozen (by simp)).trans (by simp [go_sem])
           have HB3 : Hid (Below w.heap.size w w3) := Lib.hid (Below.trans (by go_grown) (hb3.mono (by simp; omega)))
           have z3 : w.heap.size + 1 < w3.heap.size := block_lt_of_cell r0
           clear hb3)
        | (go_at_call 66
           refine (HW.out _ (HA.out.below HB3.out)).mono ?_
           rintro e w4 ⟨v4, rfl, hown4, hb4⟩
           have f0 : w4.cell? ⟨w.heap.size, 0, none⟩ = some (.int .i64 l.base) := (hb4.cell (by simp only []; omega)).trans f0
           have f1 : w4.cell? ⟨w.heap.size, 1, none⟩ = some (.slice A n c) := (hb4.cell (by simp only []; omega)).trans f1
           have r0' : w4.cell? ⟨w.heap.size + 1, 0, none⟩ = some (.int .i64 0) := (hb4.cell (by simp only []; omega)).trans r0
           have r1' : w4.cell? ⟨w.heap.size + 1, 1, none⟩ = some (.slice none 0 0) := (hb4.cell (by simp only []; omega)).trans r1
           have g0' : w4.frozen? ⟨w.heap.size + 1, 0, none⟩ = false := (hb4.frozen (by simp only []; omega)).trans g0
           have g1' : w4.frozen? ⟨w.heap.size + 1, 1, none⟩ = false := (hb4.frozen (by simp only []; omega)).trans g1
           have HB4 : Hid (Below w.heap.size w w4) := Lib.hid (below_more HB3.out hb4)
           have z4 : w.heap.size + 1 < w4.heap.size := block_lt_of_cell r0'
           obtain ⟨A4, k4, rfl, -, -, -⟩ := own_at hown4
           have HO4 := Lib.hid (own_lower hown4 (show w.heap.size + 1 + 1 ≤ w3.heap.size by omega))
           clear hb4 hown4))
    go_wp2
    refine bodyPost_ret (v := .agg #[.int .i64 l.base, .slice A4 (woList h l.parts).length k4]) (by simp [results, Try.results48, go_sem, r0', r1']) rfl ?_
    rw [HR.out]
    refine ⟨_, rfl, ⟨A4, _, k4, rfl, rfl, HL.out, ?_⟩, ?_⟩
    · refine own_lower (base := w.heap.size + 1 + 1) ?_ (by omega)
      first
        | exact ownsRow_setCell_below (ownsRow_setCell_below HO4.out (by simp only []; omega) _) (by simp only []; omega) _
    · exact (HB4.out.setCell (by simp only []; omega) _).setCell (by simp only []; omega) _
  · have HR : Hid (withGo h lv (decide (lv = l.base)) l.parts = putList h lv l.parts) := Lib.hid (by rw [decide_eq_false hb]; exact withGo_put hri)
    have hb1 : (lv == l.base) = false := by simpa using hb
    have HL : Hid ((putList h lv l.parts).length ≤ 1048576) := Lib.hid (by have := putList_length h lv l.parts; omega)
    have HW := Lib.hid (fun w1 ha1 => impl_put A n c l.parts h lv w1 ha1 hn (by omega) hc hm)
    clear hb hri h8 hn hc hm ha
    go_enter Try.func48, Try.ntmps48
    go_wp2
    go_region_held3 (fun w' => w'.cell? ⟨w.heap.size, 0, none⟩ = some (.int .i64 l.base) ∧ w'.cell? ⟨w.heap.size, 1, none⟩ = some (.slice A n c))
      (first | exact ⟨f0, f1⟩ | go_keep)
      (first
        | (go_at_call 50
           refine (impl_parts _ _ _ _ _).mono ?_
           rintro e w3 ⟨rfl, hb3⟩
           have f0 : w3.cell? ⟨w.heap.size, 0, none⟩ = some (.int .i64 l.base) := (hb3.cell (by simp; omega)).trans (by simp [go_sem])
           have f1 : w3.cell? ⟨w.heap.size, 1, none⟩ = some (.slice A n c) := (hb3.cell (by simp; omega)).trans (by simp [go_sem])
           have r0 : w3.cell? ⟨w.heap.size + 1, 0, none⟩ = some (.int .i64 0) := (hb3.cell (by simp)).trans (by simp [go_sem])
           have r1 : w3.cell? ⟨w.heap.size + 1, 1, none⟩ = some (.slice none 0 0) := (hb3.cell (by simp)).trans (by simp [go_sem])
           have g0 : w3.frozen? ⟨w.heap.size + 1, 0, none⟩ = false := (hb3.frozen (by simp)).trans (by simp [go_sem])
           have g1 : w3.frozen? ⟨w.heap.size + 1, 1, none⟩ = false := (hb3.frozen (by simp)).trans (by simp [go_sem])
           have HB3 : Hid (Below w.heap.size w w3) := Lib.hid (Below.trans (by go_grown) (hb3.mono (by simp; omega)))
           have z3 : w.heap.size + 1 < w3.heap.size := block_lt_of_cell r0
           clear hb3)
        | (go_at_call 67
           refine (HW.out _ (HA.out.below HB3.out)).mono ?_
           rintro e w4 ⟨v4, rfl, hown4, hb4⟩
           have f0 : w4.cell? ⟨w.heap.size, 0, none⟩ = some (.int .i64 l.base) := (hb4.cell (by simp only []; omega)).trans f0
           have f1 : w4.cell? ⟨w.heap.size, 1, none⟩ = some (.slice A n c) := (hb4.cell (by simp only []; omega)).trans f1
           have r0' : w4.cell? ⟨w.heap.size + 1, 0, none⟩ = some (.int .i64 0) := (hb4.cell (by simp only []; omega)).trans r0
           have r1' : w4.cell? ⟨w.heap.size + 1, 1, none⟩ = some (.slice none 0 0) := (hb4.cell (by simp only []; omega)).trans r1
           have g0' : w4.frozen? ⟨w.heap.size + 1, 0, none⟩ = false := (hb4.frozen (by simp only []; omega)).trans g0
           have g1' : w4.frozen? ⟨w.heap.size + 1, 1, none⟩ = false := (hb4.frozen (by simp only []; omega)).trans g1
           have HB4 : Hid (Below w.heap.size w w4) := Lib.hid (below_more HB3.out hb4)
           have z4 : w.heap.size + 1 < w4.heap.size := block_lt_of_cell r0'
           obtain ⟨A4, k4, rfl, -, -, -⟩ := own_at hown4
           have HO4 := Lib.hid (own_lower hown4 (show w.heap.size + 1 + 1 ≤ w3.heap.size by omega))
           clear hb4 hown4))
    go_wp2
    refine bodyPost_ret (v := .agg #[.int .i64 l.base, .slice A4 (putList h lv l.parts).length k4]) (by simp [results, Try.results48, go_sem, r0', r1']) rfl ?_
    rw [HR.out]
    refine ⟨_, rfl, ⟨A4, _, k4, rfl, rfl, HL.out, ?_⟩, ?_⟩
    · refine own_lower (base := w.heap.size + 1 + 1) ?_ (by omega)
      first
        | exact ownsRow_setCell_below (ownsRow_setCell_below HO4.out (by simp only []; omega) _) (by simp only []; omega) _
    · exact (HB4.out.setCell (by simp only []; omega) _).setCell (by simp only []; omega) _

theorem impl_with (v : Value) (l : Lab) (h lv : Int) (w : World) (hr : RdLab w v l) :
    Calls Try.prog 21 #[v, .int .i64 h, .int .i64 lv] w (RetLab2 (withLabel l h lv).1 (withLabel l h lv).2 w) := by
  have hr0 := hr
  obtain ⟨A, n, c, rfl, -⟩ := hr
  cases hb : labOk l
  · -- not right
    have HR := Lib.hid (withLabel_no (h := h) (v := lv) (.inl hb))
    go_enter Try.func21, Try.ntmps21
    go_wp2_with fail
    refine (impl_labok0 _ l _ ((hr0.alloc _).alloc _)).mono ?_
    rintro e w1 ⟨rfl, hb1⟩
    obtain ⟨⟨c0, c1⟩, ⟨c2, c3⟩, hz, hbel⟩ := box4 hb1
    have g2 : w1.frozen? ⟨w.heap.size + 1, 0, none⟩ = false := (hb1.frozen (by simp)).trans (by simp [go_sem])
    have g3 : w1.frozen? ⟨w.heap.size + 1, 1, none⟩ = false := (hb1.frozen (by simp)).trans (by simp [go_sem])
    clear hb1
    go_wp2_with (first | (go_at_call 45; refine (impl_hrange _ _).mono ?_; rintro e w1 ⟨rfl, rfl⟩) | (go_at_call 41; refine (impl_ok _ _).mono ?_; rintro e w1 ⟨rfl, rfl⟩))
    refine bodyPost_ret (v := .tuple #[.agg #[.int .i64 0, .slice none 0 0], .bool false]) (by simp [results, Try.results21, go_sem, c2, c3]) rfl ?_
    rw [HR.out]
    exact ⟨_, rfl, own_nil _ _ _, (hbel.setCell (by simp only []; omega) _).setCell (by simp only []; omega) _⟩
  cases hh : hOk h
  · -- no handle
    have HR := Lib.hid (withLabel_no (l := l) (v := lv) (.inr (.inl hh)))
    go_enter Try.func21, Try.ntmps21
    go_wp2_with fail
    refine (impl_labok0 _ l _ ((hr0.alloc _).alloc _)).mono ?_
    rintro e w1 ⟨rfl, hb1⟩
    obtain ⟨⟨c0, c1⟩, ⟨c2, c3⟩, hz, hbel⟩ := box4 hb1
    have g2 : w1.frozen? ⟨w.heap.size + 1, 0, none⟩ = false := (hb1.frozen (by simp)).trans (by simp [go_sem])
    have g3 : w1.frozen? ⟨w.heap.size + 1, 1, none⟩ = false := (hb1.frozen (by simp)).trans (by simp [go_sem])
    clear hb1
    go_wp2_with (first | (go_at_call 45; refine (impl_hrange _ _).mono ?_; rintro e w1 ⟨rfl, rfl⟩) | (go_at_call 41; refine (impl_ok _ _).mono ?_; rintro e w1 ⟨rfl, rfl⟩))
    refine bodyPost_ret (v := .tuple #[.agg #[.int .i64 0, .slice none 0 0], .bool false]) (by simp [results, Try.results21, go_sem, c2, c3]) rfl ?_
    rw [HR.out]
    exact ⟨_, rfl, own_nil _ _ _, (hbel.setCell (by simp only []; omega) _).setCell (by simp only []; omega) _⟩
  cases hv : lvOk lv
  · -- no level
    have HR := Lib.hid (withLabel_no (l := l) (h := h) (.inr (.inr hv)))
    go_enter Try.func21, Try.ntmps21
    go_wp2_with fail
    refine (impl_labok0 _ l _ ((hr0.alloc _).alloc _)).mono ?_
    rintro e w1 ⟨rfl, hb1⟩
    obtain ⟨⟨c0, c1⟩, ⟨c2, c3⟩, hz, hbel⟩ := box4 hb1
    have g2 : w1.frozen? ⟨w.heap.size + 1, 0, none⟩ = false := (hb1.frozen (by simp)).trans (by simp [go_sem])
    have g3 : w1.frozen? ⟨w.heap.size + 1, 1, none⟩ = false := (hb1.frozen (by simp)).trans (by simp [go_sem])
    clear hb1
    go_wp2_with (first | (go_at_call 45; refine (impl_hrange _ _).mono ?_; rintro e w1 ⟨rfl, rfl⟩) | (go_at_call 41; refine (impl_ok _ _).mono ?_; rintro e w1 ⟨rfl, rfl⟩))
    refine bodyPost_ret (v := .tuple #[.agg #[.int .i64 0, .slice none 0 0], .bool false]) (by simp [results, Try.results21, go_sem, c2, c3]) rfl ?_
    rw [HR.out]
    exact ⟨_, rfl, own_nil _ _ _, (hbel.setCell (by simp only []; omega) _).setCell (by simp only []; omega) _⟩
  obtain ⟨ps, hps⟩ : ∃ ps, ps = withGo h lv (decide (lv = l.base)) l.parts := ⟨_, rfl⟩
  have HW := Lib.hid (fun w1 (hr1 : RdLab w1 (.agg #[.int .i64 l.base, .slice A n c]) l) => impl_with0 _ l h lv w1 hr1 (labOk_rises hb) (labOk_short hb))
  rw [← hps] at HW
  by_cases h8 : 8 < ps.length
  · have HR : Hid (withLabel l h lv = (noLab, false)) := Lib.hid ((withLabel_yes hb hh hv).trans (withL_long hps.symm h8))
    have h8' : (8 : Int) < (ps.length : Nat) := by omega
    clear hps
    go_enter Try.func21, Try.ntmps21
    go_wp2_with fail
    refine (impl_labok0 _ l _ ((hr0.alloc _).alloc _)).mono ?_
    rintro e w1 ⟨rfl, hb1⟩
    obtain ⟨⟨c0, c1⟩, ⟨c2, c3⟩, hz, hbel⟩ := box4 hb1
    have g2 : w1.frozen? ⟨w.heap.size + 1, 0, none⟩ = false := (hb1.frozen (by simp)).trans (by simp [go_sem])
    have g3 : w1.frozen? ⟨w.heap.size + 1, 1, none⟩ = false := (hb1.frozen (by simp)).trans (by simp [go_sem])
    have hr1 := hr0.below hbel
    clear hb1
    go_wp2_with (first | (go_at_call 45; refine (impl_hrange _ _).mono ?_; rintro e w1 ⟨rfl, rfl⟩) | (go_at_call 41; refine (impl_ok _ _).mono ?_; rintro e w1 ⟨rfl, rfl⟩))
    refine (HW.out _ hr1).mono ?_
    rintro e w2 ⟨v2, rfl, hown2, hb2⟩
    have e2 := (hb2.cell (p := ⟨w.heap.size + 1, 0, none⟩) (by simp only []; omega)).trans c2
    have e3 := (hb2.cell (p := ⟨w.heap.size + 1, 1, none⟩) (by simp only []; omega)).trans c3
    have f2 := (hb2.frozen (p := ⟨w.heap.size + 1, 0, none⟩) (by simp only []; omega)).trans g2
    have f3 := (hb2.frozen (p := ⟨w.heap.size + 1, 1, none⟩) (by simp only []; omega)).trans g3
    have hbel2 := below_more hbel hb2
    obtain ⟨A2, n2, k2, rfl, hn2, hl2, ho2⟩ := hown2
    have h8n : (8 : Int) < n2 := by simp only [] at hn2; omega
    have hz2 : w.heap.size + 1 < w2.heap.size := block_lt_of_cell e2
    clear hb2 hn2 ho2 c2 c3 g2 g3 h8 h8' HW
    go_wp2
    refine bodyPost_ret (v := .tuple #[.agg #[.int .i64 0, .slice none 0 0], .bool false]) (by simp [results, Try.results21, go_sem, e2, e3, hz2]) rfl ?_
    rw [HR.out]
    refine ⟨_, rfl, own_nil _ _ _, ?_⟩
    go_grown
  · have HR : Hid (withLabel l h lv = (⟨l.base, ps⟩, true)) := Lib.hid ((withLabel_yes hb hh hv).trans (withL_short hps.symm (by omega)))
    clear hps
    go_enter Try.func21, Try.ntmps21
    go_wp2_with fail
    refine (impl_labok0 _ l _ ((hr0.alloc _).alloc _)).mono ?_
    rintro e w1 ⟨rfl, hb1⟩
    obtain ⟨⟨c0, c1⟩, ⟨c2, c3⟩, hz, hbel⟩ := box4 hb1
    have g2 : w1.frozen? ⟨w.heap.size + 1, 0, none⟩ = false := (hb1.frozen (by simp)).trans (by simp [go_sem])
    have g3 : w1.frozen? ⟨w.heap.size + 1, 1, none⟩ = false := (hb1.frozen (by simp)).trans (by simp [go_sem])
    have hr1 := hr0.below hbel
    clear hb1
    go_wp2_with (first | (go_at_call 45; refine (impl_hrange _ _).mono ?_; rintro e w1 ⟨rfl, rfl⟩) | (go_at_call 41; refine (impl_ok _ _).mono ?_; rintro e w1 ⟨rfl, rfl⟩))
    refine (HW.out _ hr1).mono ?_
    rintro e w2 ⟨v2, rfl, hown2, hb2⟩
    have e2 := (hb2.cell (p := ⟨w.heap.size + 1, 0, none⟩) (by simp only []; omega)).trans c2
    have e3 := (hb2.cell (p := ⟨w.heap.size + 1, 1, none⟩) (by simp only []; omega)).trans c3
    have f2 := (hb2.frozen (p := ⟨w.heap.size + 1, 0, none⟩) (by simp only []; omega)).trans g2
    have f3 := (hb2.frozen (p := ⟨w.heap.size + 1, 1, none⟩) (by simp only []; omega)).trans g3
    have hbel2 := below_more hbel hb2
    obtain ⟨A2, n2, k2, rfl, hn2, hl2, ho2⟩ := hown2
    have h8n : (n2 : Int) ≤ 8 := by simp only [] at hn2; omega
    have HN2 := Lib.hid hn2
    have HO2 := Lib.hid ho2
    have hz2 : w.heap.size + 1 < w2.heap.size := block_lt_of_cell e2
    clear hb2 hn2 ho2 c2 c3 g2 g3 h8 HW
    go_wp2
    refine bodyPost_ret (v := .tuple #[.agg #[.int .i64 l.base, .slice A2 n2 k2], .bool true]) (by simp [results, Try.results21, go_sem, e2, e3, hz2]) rfl ?_
    rw [HR.out]
    refine ⟨_, rfl, ⟨A2, n2, k2, rfl, HN2.out, hl2, ?_⟩, ?_⟩
    · exact own_lower (base := w1.heap.size) (own_below (ownsRow_setCell_below (ownsRow_setCell_below HO2.out (by simp only []; omega) _) (by simp only []; omega) _) ((Below.refl _ _).alloc (Nat.le_refl _) _)) (by omega)
    · go_grown
end Go.Proofs.Ytobggbejkfkodaa
