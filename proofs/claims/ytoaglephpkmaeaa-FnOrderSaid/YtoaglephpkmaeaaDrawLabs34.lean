/-
  What the draws of chapters 3 and 4 hand out: labels, whatever they are; nothing that was there is written.
-/
import Derived.Test.YtoaglephpkmaeaaDrawTwo
namespace Go.Proofs.Ytoaglephpkmaeaa
set_option maxRecDepth 100000
open Go.RowKit

/-- The call returns two labels, three labels, whatever. -/
def DrTwo (w : World) (e : Ending) (w' : World) : Prop := ∃ v u l m, e = .returned (.tuple #[v, u]) ∧ RdLab w' v l ∧ RdLab w' u m ∧ Below w.heap.size w w'
def DrThree (w : World) (e : Ending) (w' : World) : Prop := ∃ v u x l m o, e = .returned (.tuple #[v, u, x]) ∧ RdLab w' v l ∧ RdLab w' u m ∧ RdLab w' x o ∧ Below w.heap.size w w'


theorem draw_join (a : Option Addr) (len cap : Nat) (zs : List Int) (w : World) (hl : len ≤ 4096) (hr : IsRow .u8 w a len cap zs) : Calls Try.prog 8 #[.slice a len cap] w (DrTwo w) := by
  go_enter Try.func8, Try.ntmps8
  go_wp2_with fail
  refine (new_any a len cap zs _ hl (hr.below (((Below.refl _ _).alloc (Nat.le_refl _) _).alloc (by simp) _))).mono ?_
  rintro e w1 ⟨p, hp, rfl, hc1, hb1⟩
  obtain ⟨⟨c0, c1⟩, ⟨c2, c3⟩, hz, hbel⟩ := box4 hb1
  have FR1 : Fresh w1 w.heap.size := ⟨c0, c1, (hb1.frozen (by simp; omega)).trans (by simp [go_sem]), (hb1.frozen (by simp; omega)).trans (by simp [go_sem])⟩
  have FR2 : Fresh w1 (w.heap.size + 1) := ⟨c2, c3, (hb1.frozen (by simp)).trans (by simp [go_sem]), (hb1.frozen (by simp)).trans (by simp [go_sem])⟩
  have hp' : w.heap.size + 1 < p := by simp at hp; omega
  clear hb1 hp c0 c1 c2 c3
  go_wp2_with fail
  refine (draw_two p a len cap zs _ hl hc1 (CurRow.start hr hbel (by omega))).mono ?_
  rintro e w2 ⟨v, u, l, m, rfl, ho1, ho2, hc2, hg2⟩
  have F1 := FR1.kept hg2 (by omega)
  have F2 := FR2.kept hg2 (by omega)
  have e0 := F1.c0
  have e1 := F1.c1
  have e2 := F2.c0
  have e3 := F2.c1
  have q0 := F1.f0
  have q1 := F1.f1
  have q2 := F2.f0
  have q3 := F2.f1
  have HB := Lib.hid (gb_below hbel hg2 (by omega))
  have H1 := Lib.hid ho1
  have H2 := Lib.hid ho2
  obtain ⟨A, n, c, rfl, -, -, -⟩ := ho1
  obtain ⟨B, n', d, rfl, -, -, -⟩ := ho2
  clear hg2 FR1 FR2 F1 F2
  go_wp2
  refine bodyPost_ret (v := .tuple #[.agg #[.int .i64 l.base, .slice A n c], .agg #[.int .i64 m.base, .slice B n' d]]) (by simp [results, Try.results8, go_sem, e0, e1, e2, e3]) rfl ?_
  have b1 : w.heap.size < w1.heap.size := by omega
  exact ⟨_, _, l, m, rfl, ((((H1.out.past b1).past b1).past hz).past hz).rd, ((((H2.out.past b1).past b1).past hz).past hz).rd, (((HB.out.setCell (by simp only []; omega) _).setCell (by simp only []; omega) _).setCell (by simp only []; omega) _).setCell (by simp only []; omega) _⟩

theorem draw_atmost (a : Option Addr) (len cap : Nat) (zs : List Int) (w : World) (hl : len ≤ 4096) (hr : IsRow .u8 w a len cap zs) : Calls Try.prog 9 #[.slice a len cap] w (DrTwo w) := by
  go_enter Try.func9, Try.ntmps9
  go_wp2_with fail
  refine (new_any a len cap zs _ hl (hr.below (((Below.refl _ _).alloc (Nat.le_refl _) _).alloc (by simp) _))).mono ?_
  rintro e w1 ⟨p, hp, rfl, hc1, hb1⟩
  obtain ⟨⟨c0, c1⟩, ⟨c2, c3⟩, hz, hbel⟩ := box4 hb1
  have FR1 : Fresh w1 w.heap.size := ⟨c0, c1, (hb1.frozen (by simp; omega)).trans (by simp [go_sem]), (hb1.frozen (by simp; omega)).trans (by simp [go_sem])⟩
  have FR2 : Fresh w1 (w.heap.size + 1) := ⟨c2, c3, (hb1.frozen (by simp)).trans (by simp [go_sem]), (hb1.frozen (by simp)).trans (by simp [go_sem])⟩
  have hp' : w.heap.size + 1 < p := by simp at hp; omega
  clear hb1 hp c0 c1 c2 c3
  go_wp2_with fail
  refine (draw_two p a len cap zs _ hl hc1 (CurRow.start hr hbel (by omega))).mono ?_
  rintro e w2 ⟨v, u, l, m, rfl, ho1, ho2, hc2, hg2⟩
  have F1 := FR1.kept hg2 (by omega)
  have F2 := FR2.kept hg2 (by omega)
  have e0 := F1.c0
  have e1 := F1.c1
  have e2 := F2.c0
  have e3 := F2.c1
  have q0 := F1.f0
  have q1 := F1.f1
  have q2 := F2.f0
  have q3 := F2.f1
  have HB := Lib.hid (gb_below hbel hg2 (by omega))
  have H1 := Lib.hid ho1
  have H2 := Lib.hid ho2
  obtain ⟨A, n, c, rfl, -, -, -⟩ := ho1
  obtain ⟨B, n', d, rfl, -, -, -⟩ := ho2
  clear hg2 FR1 FR2 F1 F2
  go_wp2
  refine bodyPost_ret (v := .tuple #[.agg #[.int .i64 l.base, .slice A n c], .agg #[.int .i64 m.base, .slice B n' d]]) (by simp [results, Try.results9, go_sem, e0, e1, e2, e3]) rfl ?_
  have b1 : w.heap.size < w1.heap.size := by omega
  exact ⟨_, _, l, m, rfl, ((((H1.out.past b1).past b1).past hz).past hz).rd, ((((H2.out.past b1).past b1).past hz).past hz).rd, (((HB.out.setCell (by simp only []; omega) _).setCell (by simp only []; omega) _).setCell (by simp only []; omega) _).setCell (by simp only []; omega) _⟩
end Go.Proofs.Ytoaglephpkmaeaa
