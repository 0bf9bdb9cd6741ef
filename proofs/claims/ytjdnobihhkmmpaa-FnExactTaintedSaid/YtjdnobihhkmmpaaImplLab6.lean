/-
  Chapter 2 of the program: the label with a level; With.
-/
import Derived.Test.YtjdnobihhkmmpaaImplLab5
namespace Go.Proofs.Ytjdnobihhkmmpaa
set_option maxRecDepth 100000
open Go.RowKit

set_option maxHeartbeats 2000000 in
theorem impl_with0 (v : Value) (l : Lab) (h lv : Int) (w : World) (hr : RdLab w v l) (hri : Rises (-1) l.parts) (h8 : l.parts.length ≤ 1000) :
    Calls Try.prog 58 #[v, .int .i64 h, .int .i64 lv] w (RetLab ⟨l.base, withGo h lv (decide (lv = l.base)) l.parts⟩ w) := by
  obtain ⟨A, n, c, rfl, hn, hl, hc, hm, ha⟩ := hr
  have HA := Lib.hid ha
  by_cases hb : lv = l.base
  · have HR : Hid (withGo h lv (decide (lv = l.base)) l.parts = woList h l.parts) := Lib.hid (by rw [decide_eq_true hb]; exact withGo_without hri)
    have hb1 : (lv == l.base) = true := by simpa using hb
    have HL : Hid ((woList h l.parts).length ≤ 1048576) := Lib.hid (by have := woList_length h l.parts; omega)
    have HW := Lib.hid (fun w1 ha1 => impl_without A n c l.parts h w1 ha1 hn (by omega) hc hm)
    clear hb hri h8 hn hc hm ha
    go_enter Try.func58, Try.ntmps58
    go_wp2
    go_region_held3 (fun w' => w'.cell? ⟨w.heap.size, 0, none⟩ = some (.int .i64 l.base) ∧ w'.cell? ⟨w.heap.size, 1, none⟩ = some (.slice A n c))
      (first | exact ⟨f0, f1⟩ | go_keep)
      (first
        | (go_at_call 28
           refine (impl_parts _ _ _ _ _).mono ?_
           rintro e w3 ⟨rfl, hb3⟩
           have f0 : w3.cell? ⟨w.heap.size, 0, none⟩ = some (.int .i64 l.base) := (hb3.cell (by simp; omega)).trans (by simp [go_sem])
           have f1 : w3.cell? ⟨w.heap.size, 1, none⟩ = some (.slice A n c) := (hb3.cell (by simp; omega)).trans (by simp [go_sem])
           have r0 : w3.cell? ⟨w.heap.size + 1, 0, none⟩ = some (.int .i64 0) := (hb3.cell (by simp)).trans (by simp [go_sem])
           have r1 : w3.cell? ⟨w.heap.size + 1, 1, none⟩ = some (.slice none 0 0) := (hb3.cell (by simp)).trans (by simp [go_sem])
           have g0 : w3.frozen? ⟨w.heap.size + 1, 0, none⟩ = false := (hb3.frozen (by simp)).trans (by simp [go_sem])
           have g1 : w3.frozen? ⟨w.heap.size + 1, 1, none⟩ = false := (hb3.frozen (by simp)).trans (by simp [go_sem])
           have HB3 : Hid (Below w.heap.size w w3) := Lib.hid (Below.trans (by go_grown) (hb3.mono (by simp; omega)))
           have z3 : w.heap.size + 1 < w3.heap.size := block_lt_of_cell r0
           clear hb3)
        | (go_at_call 76
           refine (HW.out _ (HA.out.below HB3.out)).mono ?_
           rintro e w4 ⟨v4, rfl, hown4, hb4⟩
           have f0 : w4.cell? ⟨w.heap.size, 0, none⟩ = some (.int .i64 l.base) := (hb4.cell (by simp only []; omega)).trans f0
           have f1 : w4.cell? ⟨w.heap.size, 1, none⟩ = some (.slice A n c) := (hb4.cell (by simp only []; omega)).trans f1
           have r0' : w4.cell? ⟨w.heap.size + 1, 0, none⟩ = some (.int .i64 0) := (hb4.cell (by simp only []; omega)).trans r0
           have r1' : w4.cell? ⟨w.heap.size + 1, 1, none⟩ = some (.slice none 0 0) := (hb4.cell (by simp only []; omega)).trans r1
           have g0' : w4.frozen? ⟨w.heap.size + 1, 0, none⟩ = false := (hb4.frozen (by simp only []; omega)).trans g0
           have g1' : w4.frozen? ⟨w.heap.size + 1, 1, none⟩ = false := (hb4.frozen (by simp only []; omega)).trans g1
           have HB4 : Hid (Below w.heap.size w w4) := Lib.hid (below_more HB3.out hb4)
           have z4 : w.heap.size + 1 < w4.heap.size := block_lt_of_cell r0'
           obtain ⟨A4, k4, rfl, -, -, -⟩ := own_at hown4
           have HO4 := Lib.hid (own_lower hown4 (show w.heap.size + 1 + 1 ≤ w3.heap.size by omega))
           clear hb4 hown4))
    go_wp2
    refine bodyPost_ret (v := .agg #[.int .i64 l.base, .slice A4 (woList h l.parts).length k4]) (by simp [results, Try.results58, go_sem, r0', r1']) rfl ?_
    rw [HR.out]
    refine ⟨_, rfl, ⟨A4, _, k4, rfl, rfl, HL.out, ?_⟩, ?_⟩
    · refine own_lower (base := w.heap.size + 1 + 1) ?_ (by omega)
      first
        | exact ownsRow_setCell_below (ownsRow_setCell_below HO4.out (by simp only []; omega) _) (by simp only []; omega) _
    · exact (HB4.out.setCell (by simp only []; omega) _).setCell (by simp only []; omega) _
  · have HR : Hid (withGo h lv (decide (lv = l.base)) l.parts = putList h lv l.parts) := Lib.hid (by rw [decide_eq_false hb]; exact withGo_put hri)
    have hb1 : (lv == l.base) = false := by simpa using hb
    have HL : Hid ((putList h lv l.parts).length ≤ 1048576) := Lib.hid (by have := putList_length h lv l.parts; omega)
    have HW := Lib.hid (fun w1 ha1 => impl_put A n c l.parts h lv w1 ha1 hn (by omega) hc hm)
    clear hb hri h8 hn hc hm ha
    go_enter Try.func58, Try.ntmps58
    go_wp2
    go_region_held3 (fun w' => w'.cell? ⟨w.heap.size, 0, none⟩ = some (.int .i64 l.base) ∧ w'.cell? ⟨w.heap.size, 1, none⟩ = some (.slice A n c))
      (first | exact ⟨f0, f1⟩ | go_keep)
      (first
        | (go_at_call 28
           refine (impl_parts _ _ _ _ _).mono ?_
           rintro e w3 ⟨rfl, hb3⟩
           have f0 : w3.cell? ⟨w.heap.size, 0, none⟩ = some (.int .i64 l.base) := (hb3.cell (by simp; omega)).trans (by simp [go_sem])
           have f1 : w3.cell? ⟨w.heap.size, 1, none⟩ = some (.slice A n c) := (hb3.cell (by simp; omega)).trans (by simp [go_sem])
           have r0 : w3.cell? ⟨w.heap.size + 1, 0, none⟩ = some (.int .i64 0) := (hb3.cell (by simp)).trans (by simp [go_sem])
           have r1 : w3.cell? ⟨w.heap.size + 1, 1, none⟩ = some (.slice none 0 0) := (hb3.cell (by simp)).trans (by simp [go_sem])
           have g0 : w3.frozen? ⟨w.heap.size + 1, 0, none⟩ = false := (hb3.frozen (by simp)).trans (by simp [go_sem])
           have g1 : w3.frozen? ⟨w.heap.size + 1, 1, none⟩ = false := (hb3.frozen (by simp)).trans (by simp [go_sem])
           have HB3 : Hid (Below w.heap.size w w3) := Lib.hid (Below.trans (by go_grown) (hb3.mono (by simp; omega)))
           have z3 : w.heap.size + 1 < w3.heap.size := block_lt_of_cell r0
           clear hb3)
        | (go_at_call 77
           refine (HW.out _ (HA.out.below HB3.out)).mono ?_
           rintro e w4 ⟨v4, rfl, hown4, hb4⟩
           have f0 : w4.cell? ⟨w.heap.size, 0, none⟩ = some (.int .i64 l.base) := (hb4.cell (by simp only []; omega)).trans f0
           have f1 : w4.cell? ⟨w.heap.size, 1, none⟩ = some (.slice A n c) := (hb4.cell (by simp only []; omega)).trans f1
           have r0' : w4.cell? ⟨w.heap.size + 1, 0, none⟩ = some (.int .i64 0) := (hb4.cell (by simp only []; omega)).trans r0
           have r1' : w4.cell? ⟨w.heap.size + 1, 1, none⟩ = some (.slice none 0 0) := (hb4.cell (by simp only []; omega)).trans r1
           have g0' : w4.frozen? ⟨w.heap.size + 1, 0, none⟩ = false := (hb4.frozen (by simp only []; omega)).trans g0
           have g1' : w4.frozen? ⟨w.heap.size + 1, 1, none⟩ = false := (hb4.frozen (by simp only []; omega)).trans g1
           have HB4 : Hid (Below w.heap.size w w4) := Lib.hid (below_more HB3.out hb4)
           have z4 : w.heap.size + 1 < w4.heap.size := block_lt_of_cell r0'
           obtain ⟨A4, k4, rfl, -, -, -⟩ := own_at hown4
           have HO4 := Lib.hid (own_lower hown4 (show w.heap.size + 1 + 1 ≤ w3.heap.size by omega))
           clear hb4 hown4))
    go_wp2
    refine bodyPost_ret (v := .agg #[.int .i64 l.base, .slice A4 (putList h lv l.parts).length k4]) (by simp [results, Try.results58, go_sem, r0', r1']) rfl ?_
    rw [HR.out]
    refine ⟨_, rfl, ⟨A4, _, k4, rfl, rfl, HL.out, ?_⟩, ?_⟩
    · refine own_lower (base := w.heap.size + 1 + 1) ?_ (by omega)
      first
        | exact ownsRow_setCell_below (ownsRow_setCell_below HO4.out (by simp only []; omega) _) (by simp only []; omega) _
    · exact (HB4.out.setCell (by simp only []; omega) _).setCell (by simp only []; omega) _

end Go.Proofs.Ytjdnobihhkmmpaa
