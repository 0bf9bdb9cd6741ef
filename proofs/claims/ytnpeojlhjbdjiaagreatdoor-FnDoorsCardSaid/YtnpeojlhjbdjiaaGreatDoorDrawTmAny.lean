/-
  The draws of terms, right or not, and what DrawTermsOk hands out (chapter 5 of the model).
-/
import Derived.Test.YtnpeojlhjbdjiaaGreatDoorDrawTm
import Derived.Test.YtnpeojlhjbdjiaaGreatDoorDrawLabs
namespace Go.Proofs.YtnpeojlhjbdjiaaGreatDoor
set_option maxRecDepth 100000
open Go.RowKit

set_option maxHeartbeats 8000000 in
theorem draw_tmany (p : Nat) (a : Option Addr) (len cap : Nat) (zs : List Int) (w : World) (hl : len ≤ 4096) (hc : IsCur p a len cap w) (hr : CurRow w p a len cap zs) :
    Calls Tryz.prog 54 #[.pointer (some ⟨p, 0, none⟩)] w (DrawnTm 100 p a len cap w) := by
  have hp := hc.lt
  go_enter Tryz.func54, Tryz.ntmps54
  go_wp2_with fail
  generalize hW : w.alloc (.cells #[.int .i64 0, .slice none 0 0, .int .i64 0, .slice none 0 0, .int .i64 0, .slice none 0 0, .int .i64 0, .slice none 0 0] 33) = x0
  obtain ⟨rb, hsz, bel⟩ := laid1 (ps := [.int .i64 0, .slice none 0 0, .int .i64 0, .slice none 0 0, .int .i64 0, .slice none 0 0, .int .i64 0, .slice none 0 0]) hW
  clear hW
  have hr0 := hr.kept (gb_of_below bel (some p))
  have hc0 := hc.block (bel.block p hp)
  refine (draw_tm p a len cap zs _ hl hc0 hr0).mono ?_
  rintro e w1 ⟨v1, t, rfl, own, hc1, hg1⟩
  have hf := own.few
  obtain ⟨A0, n0, c0, A1, n1, c1, A2, n2, c2, A3, n3, c3, rfl, -⟩ := id own
  go_wp2_with fail
  generalize hW : w1.alloc (.cells #[.int .i64 t.taint.base, .slice A0 n0 c0, .int .i64 t.clear.base, .slice A1 n1 c1, .int .i64 t.raise.base, .slice A2 n2 c2, .int .i64 t.verify.base, .slice A3 n3 c3] 33) = w2
  obtain ⟨gb, hsz2, bel2⟩ := laid1 (ps := [.int .i64 t.taint.base, .slice A0 n0 c0, .int .i64 t.clear.base, .slice A1 n1 c1, .int .i64 t.raise.base, .slice A2 n2 c2, .int .i64 t.verify.base, .slice A3 n3 c3]) hW
  have HD : Hid (DrTm 100 p a len cap w1.heap.size w w2 [.int .i64 0, .slice none 0 0, .int .i64 0, .slice none 0 0, .int .i64 0, .slice none 0 0, .int .i64 0, .slice none 0 0] t [.int .i64 t.taint.base, .slice A0 n0 c0, .int .i64 t.clear.base, .slice A1 n1 c1, .int .i64 t.raise.base, .slice A2 n2 c2, .int .i64 t.verify.base, .slice A3 n3 c3]) := Lib.hid (by
    have hs := hg1.size
    have hlt := hc1.lt
    have g01 := gb_trans (gb_of_below bel (some p)) hg1
    have r1 := box_gb rb hg1 (by omega)
    exact ⟨⟨hc1.block (bel2.block p hlt), gb_trans g01 (gb_of_below bel2 _), by omega, r1.below bel2, gb⟩, ((own.more (by omega)).again (g := w1.heap.size) (by omega) (.inr (Nat.le_refl _))).below bel2⟩)
  clear hW gb hsz2 bel2 own hf rb bel hsz hc1 hg1 hr0 hc0
  obtain ⟨g, hg⟩ : ∃ g, g = w1.heap.size := ⟨_, rfl⟩
  rw [← hg] at HD ⊢
  clear hg
  refine (once_any p a len cap zs 5 _ hl (by omega) (by omega) HD.out.cur (hr.kept HD.out.grown)).mono ?_
  rintro e wq ⟨b, rfl, hcq, hgq⟩
  have HD' := Lib.hid (HD.out.gbr hp hcq hgq)
  clear HD hcq hgq
  have HD := HD'
  clear HD'
  cases b
  · skip
    have gk0 := HD.out.1.gb.cell 0 rfl
    have rk0 := HD.out.1.rb.cell 0 rfl
    have rf0 := HD.out.1.rb.free 0
    have gk1 := HD.out.1.gb.cell 1 rfl
    have rk1 := HD.out.1.rb.cell 1 rfl
    have rf1 := HD.out.1.rb.free 1
    have gk2 := HD.out.1.gb.cell 2 rfl
    have rk2 := HD.out.1.rb.cell 2 rfl
    have rf2 := HD.out.1.rb.free 2
    have gk3 := HD.out.1.gb.cell 3 rfl
    have rk3 := HD.out.1.rb.cell 3 rfl
    have rf3 := HD.out.1.rb.free 3
    have gk4 := HD.out.1.gb.cell 4 rfl
    have rk4 := HD.out.1.rb.cell 4 rfl
    have rf4 := HD.out.1.rb.free 4
    have gk5 := HD.out.1.gb.cell 5 rfl
    have rk5 := HD.out.1.rb.cell 5 rfl
    have rf5 := HD.out.1.rb.free 5
    have gk6 := HD.out.1.gb.cell 6 rfl
    have rk6 := HD.out.1.rb.cell 6 rfl
    have rf6 := HD.out.1.rb.free 6
    have gk7 := HD.out.1.gb.cell 7 rfl
    have rk7 := HD.out.1.rb.cell 7 rfl
    have rf7 := HD.out.1.rb.free 7
    have hgg := HD.out.1.hg
    go_wp2
    refine bodyPost_ret (v := .agg #[.int .i64 t.taint.base, .slice A0 n0 c0, .int .i64 t.clear.base, .slice A1 n1 c1, .int .i64 t.raise.base, .slice A2 n2 c2, .int .i64 t.verify.base, .slice A3 n3 c3]) (by simp [results, Tryz.results54, go_sem, rk0, rk1, rk2, rk3, rk4, rk5, rk6, rk7]) rfl ?_
    exact drawn_end HD.out hp
  go_wp2_with fail
  refine (below_any p a len cap zs _ _ hl (by omega) (by omega) HD.out.cur (hr.kept HD.out.grown)).mono ?_
  rintro e wr ⟨x, hx0, hx1, rfl, hcq, hgq⟩
  have HD' := Lib.hid (HD.out.gbr hp hcq hgq)
  clear HD hcq hgq
  have HD := HD'
  clear HD'
  obtain rfl | rfl | rfl | rfl : x = 0 ∨ x = 1 ∨ x = 2 ∨ x = 3 := by omega
  · skip
    go_wp2_with fail
    refine (draw_any p a len cap zs _ hl HD.out.cur (hr.kept HD.out.grown)).mono ?_
    rintro e w5 ⟨v5, l, rfl, own, h100, hc5, hg5⟩
    have OL : Hid (OffLab (w.heap.size + 1) g w5 v5 l) := Lib.hid (own.off (by have := HD.out.1.hg; have := HD.out.1.gb.lt; omega) (.inl HD.out.1.gb.lt))
    have HG := Lib.hid (HD.out.gbr hp hc5 hg5)
    obtain ⟨A5, n5, c5, rfl, -, -, -⟩ := own
    clear HD hc5 hg5
    have gk0 := HG.out.1.gb.cell 0 rfl
    have rk0 := HG.out.1.rb.cell 0 rfl
    have rf0 := HG.out.1.rb.free 0
    have gk1 := HG.out.1.gb.cell 1 rfl
    have rk1 := HG.out.1.rb.cell 1 rfl
    have rf1 := HG.out.1.rb.free 1
    have gk2 := HG.out.1.gb.cell 2 rfl
    have rk2 := HG.out.1.rb.cell 2 rfl
    have rf2 := HG.out.1.rb.free 2
    have gk3 := HG.out.1.gb.cell 3 rfl
    have rk3 := HG.out.1.rb.cell 3 rfl
    have rf3 := HG.out.1.rb.free 3
    have gk4 := HG.out.1.gb.cell 4 rfl
    have rk4 := HG.out.1.rb.cell 4 rfl
    have rf4 := HG.out.1.rb.free 4
    have gk5 := HG.out.1.gb.cell 5 rfl
    have rk5 := HG.out.1.rb.cell 5 rfl
    have rf5 := HG.out.1.rb.free 5
    have gk6 := HG.out.1.gb.cell 6 rfl
    have rk6 := HG.out.1.rb.cell 6 rfl
    have rf6 := HG.out.1.rb.free 6
    have gk7 := HG.out.1.gb.cell 7 rfl
    have rk7 := HG.out.1.rb.cell 7 rfl
    have rf7 := HG.out.1.rb.free 7
    have gf0 := HG.out.1.gb.free 0
    have gf1 := HG.out.1.gb.free 1
    have hgg := HG.out.1.hg
    have HH := Lib.hid (HG.out.put hp OL.out h100).1
    go_wp2
    refine bodyPost_ret (v := .agg #[.int .i64 l.base, .slice A5 n5 c5, .int .i64 t.clear.base, .slice A1 n1 c1, .int .i64 t.raise.base, .slice A2 n2 c2, .int .i64 t.verify.base, .slice A3 n3 c3]) (by simp [results, Tryz.results54, go_sem, rk0, rk1, rk2, rk3, rk4, rk5, rk6, rk7]) rfl ?_
    exact drawn_end (t := { t with taint := l }) HH.out hp
  · skip
    go_wp2_with fail
    refine (draw_any p a len cap zs _ hl HD.out.cur (hr.kept HD.out.grown)).mono ?_
    rintro e w5 ⟨v5, l, rfl, own, h100, hc5, hg5⟩
    have OL : Hid (OffLab (w.heap.size + 1) g w5 v5 l) := Lib.hid (own.off (by have := HD.out.1.hg; have := HD.out.1.gb.lt; omega) (.inl HD.out.1.gb.lt))
    have HG := Lib.hid (HD.out.gbr hp hc5 hg5)
    obtain ⟨A5, n5, c5, rfl, -, -, -⟩ := own
    clear HD hc5 hg5
    have gk0 := HG.out.1.gb.cell 0 rfl
    have rk0 := HG.out.1.rb.cell 0 rfl
    have rf0 := HG.out.1.rb.free 0
    have gk1 := HG.out.1.gb.cell 1 rfl
    have rk1 := HG.out.1.rb.cell 1 rfl
    have rf1 := HG.out.1.rb.free 1
    have gk2 := HG.out.1.gb.cell 2 rfl
    have rk2 := HG.out.1.rb.cell 2 rfl
    have rf2 := HG.out.1.rb.free 2
    have gk3 := HG.out.1.gb.cell 3 rfl
    have rk3 := HG.out.1.rb.cell 3 rfl
    have rf3 := HG.out.1.rb.free 3
    have gk4 := HG.out.1.gb.cell 4 rfl
    have rk4 := HG.out.1.rb.cell 4 rfl
    have rf4 := HG.out.1.rb.free 4
    have gk5 := HG.out.1.gb.cell 5 rfl
    have rk5 := HG.out.1.rb.cell 5 rfl
    have rf5 := HG.out.1.rb.free 5
    have gk6 := HG.out.1.gb.cell 6 rfl
    have rk6 := HG.out.1.rb.cell 6 rfl
    have rf6 := HG.out.1.rb.free 6
    have gk7 := HG.out.1.gb.cell 7 rfl
    have rk7 := HG.out.1.rb.cell 7 rfl
    have rf7 := HG.out.1.rb.free 7
    have gf2 := HG.out.1.gb.free 2
    have gf3 := HG.out.1.gb.free 3
    have hgg := HG.out.1.hg
    have HH := Lib.hid (HG.out.put hp OL.out h100).2.1
    go_wp2
    refine bodyPost_ret (v := .agg #[.int .i64 t.taint.base, .slice A0 n0 c0, .int .i64 l.base, .slice A5 n5 c5, .int .i64 t.raise.base, .slice A2 n2 c2, .int .i64 t.verify.base, .slice A3 n3 c3]) (by simp [results, Tryz.results54, go_sem, rk0, rk1, rk2, rk3, rk4, rk5, rk6, rk7]) rfl ?_
    exact drawn_end (t := { t with clear := l }) HH.out hp
  · skip
    go_wp2_with fail
    refine (draw_any p a len cap zs _ hl HD.out.cur (hr.kept HD.out.grown)).mono ?_
    rintro e w5 ⟨v5, l, rfl, own, h100, hc5, hg5⟩
    have OL : Hid (OffLab (w.heap.size + 1) g w5 v5 l) := Lib.hid (own.off (by have := HD.out.1.hg; have := HD.out.1.gb.lt; omega) (.inl HD.out.1.gb.lt))
    have HG := Lib.hid (HD.out.gbr hp hc5 hg5)
    obtain ⟨A5, n5, c5, rfl, -, -, -⟩ := own
    clear HD hc5 hg5
    have gk0 := HG.out.1.gb.cell 0 rfl
    have rk0 := HG.out.1.rb.cell 0 rfl
    have rf0 := HG.out.1.rb.free 0
    have gk1 := HG.out.1.gb.cell 1 rfl
    have rk1 := HG.out.1.rb.cell 1 rfl
    have rf1 := HG.out.1.rb.free 1
    have gk2 := HG.out.1.gb.cell 2 rfl
    have rk2 := HG.out.1.rb.cell 2 rfl
    have rf2 := HG.out.1.rb.free 2
    have gk3 := HG.out.1.gb.cell 3 rfl
    have rk3 := HG.out.1.rb.cell 3 rfl
    have rf3 := HG.out.1.rb.free 3
    have gk4 := HG.out.1.gb.cell 4 rfl
    have rk4 := HG.out.1.rb.cell 4 rfl
    have rf4 := HG.out.1.rb.free 4
    have gk5 := HG.out.1.gb.cell 5 rfl
    have rk5 := HG.out.1.rb.cell 5 rfl
    have rf5 := HG.out.1.rb.free 5
    have gk6 := HG.out.1.gb.cell 6 rfl
    have rk6 := HG.out.1.rb.cell 6 rfl
    have rf6 := HG.out.1.rb.free 6
    have gk7 := HG.out.1.gb.cell 7 rfl
    have rk7 := HG.out.1.rb.cell 7 rfl
    have rf7 := HG.out.1.rb.free 7
    have gf4 := HG.out.1.gb.free 4
    have gf5 := HG.out.1.gb.free 5
    have hgg := HG.out.1.hg
    have HH := Lib.hid (HG.out.put hp OL.out h100).2.2.1
    go_wp2
    refine bodyPost_ret (v := .agg #[.int .i64 t.taint.base, .slice A0 n0 c0, .int .i64 t.clear.base, .slice A1 n1 c1, .int .i64 l.base, .slice A5 n5 c5, .int .i64 t.verify.base, .slice A3 n3 c3]) (by simp [results, Tryz.results54, go_sem, rk0, rk1, rk2, rk3, rk4, rk5, rk6, rk7]) rfl ?_
    exact drawn_end (t := { t with raise := l }) HH.out hp
  · skip
    go_wp2_with fail
    refine (draw_any p a len cap zs _ hl HD.out.cur (hr.kept HD.out.grown)).mono ?_
    rintro e w5 ⟨v5, l, rfl, own, h100, hc5, hg5⟩
    have OL : Hid (OffLab (w.heap.size + 1) g w5 v5 l) := Lib.hid (own.off (by have := HD.out.1.hg; have := HD.out.1.gb.lt; omega) (.inl HD.out.1.gb.lt))
    have HG := Lib.hid (HD.out.gbr hp hc5 hg5)
    obtain ⟨A5, n5, c5, rfl, -, -, -⟩ := own
    clear HD hc5 hg5
    have gk0 := HG.out.1.gb.cell 0 rfl
    have rk0 := HG.out.1.rb.cell 0 rfl
    have rf0 := HG.out.1.rb.free 0
    have gk1 := HG.out.1.gb.cell 1 rfl
    have rk1 := HG.out.1.rb.cell 1 rfl
    have rf1 := HG.out.1.rb.free 1
    have gk2 := HG.out.1.gb.cell 2 rfl
    have rk2 := HG.out.1.rb.cell 2 rfl
    have rf2 := HG.out.1.rb.free 2
    have gk3 := HG.out.1.gb.cell 3 rfl
    have rk3 := HG.out.1.rb.cell 3 rfl
    have rf3 := HG.out.1.rb.free 3
    have gk4 := HG.out.1.gb.cell 4 rfl
    have rk4 := HG.out.1.rb.cell 4 rfl
    have rf4 := HG.out.1.rb.free 4
    have gk5 := HG.out.1.gb.cell 5 rfl
    have rk5 := HG.out.1.rb.cell 5 rfl
    have rf5 := HG.out.1.rb.free 5
    have gk6 := HG.out.1.gb.cell 6 rfl
    have rk6 := HG.out.1.rb.cell 6 rfl
    have rf6 := HG.out.1.rb.free 6
    have gk7 := HG.out.1.gb.cell 7 rfl
    have rk7 := HG.out.1.rb.cell 7 rfl
    have rf7 := HG.out.1.rb.free 7
    have gf6 := HG.out.1.gb.free 6
    have gf7 := HG.out.1.gb.free 7
    have hgg := HG.out.1.hg
    have HH := Lib.hid (HG.out.put hp OL.out h100).2.2.2
    go_wp2
    refine bodyPost_ret (v := .agg #[.int .i64 t.taint.base, .slice A0 n0 c0, .int .i64 t.clear.base, .slice A1 n1 c1, .int .i64 t.raise.base, .slice A2 n2 c2, .int .i64 l.base, .slice A5 n5 c5]) (by simp [results, Tryz.results54, go_sem, rk0, rk1, rk2, rk3, rk4, rk5, rk6, rk7]) rfl ?_
    exact drawn_end (t := { t with verify := l }) HH.out hp
/-- The call returns terms, whatever. -/
def DrTerms (w : World) (e : Ending) (w' : World) : Prop := ∃ v t, e = .returned v ∧ RdTm w' v t ∧ FewTm 100 t ∧ Below w.heap.size w w'
end Go.Proofs.YtnpeojlhjbdjiaaGreatDoor
