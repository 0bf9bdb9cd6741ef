/-
  What the draws of chapter 2 hand out: labels and numbers, whatever they are; nothing that was there is written.
-/
import Derived.Test.YtobggbejkfkodaaDrawAny
import Derived.Deep.RegionHeld3
import Derived.Deep.RegionWith
namespace Go.Proofs.Ytobggbejkfkodaa
set_option maxRecDepth 100000
open Go.RowKit

/-- The call returns a label, whatever. -/
def DrLab (w : World) (e : Ending) (w' : World) : Prop := ∃ v l, e = .returned v ∧ RdLab w' v l ∧ l.parts.length ≤ 100 ∧ Below w.heap.size w w'
/-- .. and a number. -/
def DrLab1 (w : World) (e : Ending) (w' : World) : Prop := ∃ v l x, e = .returned (.tuple #[v, .int .i64 x]) ∧ OwnLab w.heap.size w' v l ∧ l.parts.length ≤ 100 ∧ Below w.heap.size w w'
/-- .. and two numbers. -/
def DrLab2 (w : World) (e : Ending) (w' : World) : Prop := ∃ v l x y, e = .returned (.tuple #[v, .int .i64 x, .int .i64 y]) ∧ RdLab w' v l ∧ l.parts.length ≤ 100 ∧ Below w.heap.size w w'
/-- The call returns two labels, whatever. -/
def DrLabs (w : World) (e : Ending) (w' : World) : Prop := ∃ v u l m, e = .returned (.tuple #[v, u]) ∧ RdLab w' v l ∧ l.parts.length ≤ 100 ∧ RdLab w' u m ∧ m.parts.length ≤ 100 ∧ Below w.heap.size w w'
def DrNum (w : World) (e : Ending) (w' : World) : Prop := ∃ x, e = .returned (.int .i64 x) ∧ Below w.heap.size w w'

/-- A result's block beside a label of the call's own. -/
theorem OwnLab.past {base g i : Nat} {w : World} {v u : Value} {l : Lab} (h : OwnLab base w v l) (hg : g < base) : OwnLab base (w.setCell ⟨g, i, none⟩ u) v l := by
  obtain ⟨A, n, c, rfl, hn, hl, ho⟩ := h
  exact ⟨A, n, c, rfl, hn, hl, ownsRow_setCell_below ho (by simpa using hg) _⟩
theorem gb_below {w w1 w2 : World} {p : Nat} (h : Below w.heap.size w w1) (hg : w1.grownBy w2 (some p)) (hp : w.heap.size ≤ p) : Below w.heap.size w w2 := h.grown hg h.size (fun k hk => by have := Option.some.inj hk; omega)

theorem keep_frozen {w1 w2 : World} {g i p : Nat} (hg : w1.grownBy w2 (some p)) (hl : g < w1.heap.size) (hne : g ≠ p) : w2.frozen? ⟨g, i, none⟩ = w1.frozen? ⟨g, i, none⟩ :=
  World.frozen?_of_block (w := w1) (hg.block g hl (fun e => hne (Option.some.inj e)))
theorem keep_cell {w1 w2 : World} {g i p : Nat} {v : Value} (hg : w1.grownBy w2 (some p)) (h : w1.cell? ⟨g, i, none⟩ = some v) (hne : g ≠ p) : w2.cell? ⟨g, i, none⟩ = some v :=
  hg.cell h (fun e => hne (Option.some.inj e))

theorem draw_labok (a : Option Addr) (len cap : Nat) (zs : List Int) (w : World) (hl : len ≤ 4096) (hr : IsRow .u8 w a len cap zs) : Calls Try.prog 29 #[.slice a len cap] w (DrLab w) := by
  go_enter Try.func29, Try.ntmps29
  go_wp2_with fail
  refine (new_any a len cap zs _ hl (hr.below ((Below.refl _ _).alloc (Nat.le_refl _) _))).mono ?_
  rintro e w1 ⟨p, hp, rfl, hc1, hb1⟩
  obtain ⟨c0, c1, hz, hbel⟩ := box2 hb1
  have g0 : w1.frozen? ⟨w.heap.size, 0, none⟩ = false := (hb1.frozen (by simp)).trans (by simp [go_sem])
  have g1 : w1.frozen? ⟨w.heap.size, 1, none⟩ = false := (hb1.frozen (by simp)).trans (by simp [go_sem])
  have hp' : w.heap.size < p := by simp at hp; omega
  clear hb1 hp
  go_wp2_with fail
  refine (draw_any p a len cap zs _ hl hc1 (CurRow.start hr hbel (by omega))).mono ?_
  rintro e w2 ⟨v, l, rfl, hown, h100, hc2, hg2⟩
  have e0 := keep_cell hg2 c0 (by omega)
  have e1 := keep_cell hg2 c1 (by omega)
  have q0 : w2.frozen? ⟨w.heap.size, 0, none⟩ = false := (keep_frozen hg2 (by omega) (by omega)).trans g0
  have q1 : w2.frozen? ⟨w.heap.size, 1, none⟩ = false := (keep_frozen hg2 (by omega) (by omega)).trans g1
  have HB := Lib.hid (gb_below hbel hg2 (by omega))
  have HO := Lib.hid hown
  obtain ⟨A, n, c, rfl, -, -, -⟩ := hown
  clear hg2 c0 c1 g0 g1
  go_wp2
  refine bodyPost_ret (v := .agg #[.int .i64 l.base, .slice A n c]) (by simp [results, Try.results29, go_sem, e0, e1]) rfl ?_
  exact ⟨_, l, rfl, ((HO.out.past hz).past hz).rd, h100, (HB.out.setCell (by simp) _).setCell (by simp) _⟩

theorem draw_plain (a : Option Addr) (len cap : Nat) (zs : List Int) (w : World) (hl : len ≤ 4096) (hr : IsRow .u8 w a len cap zs) : Calls Try.prog 32 #[.slice a len cap] w (DrNum w) := by
  go_enter Try.func32, Try.ntmps32
  go_wp2_with fail
  refine (new_any a len cap zs _ hl hr).mono ?_
  rintro e w1 ⟨p, hp, rfl, hc1, hb1⟩
  go_wp2_with fail
  refine (from_any p a len cap zs _ _ _ hl (by omega) (by omega) (by omega) hc1 (CurRow.start hr hb1 hp)).mono ?_
  rintro e w2 ⟨x, hx0, hx1, rfl, hc2, hg2⟩
  go_wp2
  go_ret
  exact ⟨x, rfl, gb_below hb1 hg2 hp⟩

theorem draw_handles (a : Option Addr) (len cap : Nat) (zs : List Int) (w : World) (hl : len ≤ 4096) (hr : IsRow .u8 w a len cap zs) : Calls Try.prog 31 #[.slice a len cap] w (DrLabs w) := by
  go_enter Try.func31, Try.ntmps31
  go_wp2_with fail
  refine (new_any a len cap zs _ hl (hr.below (((Below.refl _ _).alloc (Nat.le_refl _) _).alloc (by simp) _))).mono ?_
  rintro e w1 ⟨p, hp, rfl, hc1, hb1⟩
  obtain ⟨⟨c0, c1⟩, ⟨c2, c3⟩, hz, hbel⟩ := box4 hb1
  have g0 : w1.frozen? ⟨w.heap.size, 0, none⟩ = false := (hb1.frozen (by simp; omega)).trans (by simp [go_sem])
  have g1 : w1.frozen? ⟨w.heap.size, 1, none⟩ = false := (hb1.frozen (by simp; omega)).trans (by simp [go_sem])
  have g2 : w1.frozen? ⟨w.heap.size + 1, 0, none⟩ = false := (hb1.frozen (by simp)).trans (by simp [go_sem])
  have g3 : w1.frozen? ⟨w.heap.size + 1, 1, none⟩ = false := (hb1.frozen (by simp)).trans (by simp [go_sem])
  have hp' : w.heap.size + 1 < p := by simp at hp; omega
  clear hb1 hp
  go_wp2_with fail
  refine (draw_any p a len cap zs _ hl hc1 (CurRow.start hr hbel (by omega))).mono ?_
  rintro e w2 ⟨v, l, rfl, hown, h100, hc2, hg2⟩
  have e0 := keep_cell hg2 c0 (by omega)
  have e1 := keep_cell hg2 c1 (by omega)
  have e2 := keep_cell hg2 c2 (by omega)
  have e3 := keep_cell hg2 c3 (by omega)
  have q0 : w2.frozen? ⟨w.heap.size, 0, none⟩ = false := (keep_frozen hg2 (by omega) (by omega)).trans g0
  have q1 : w2.frozen? ⟨w.heap.size, 1, none⟩ = false := (keep_frozen hg2 (by omega) (by omega)).trans g1
  have q2 : w2.frozen? ⟨w.heap.size + 1, 0, none⟩ = false := (keep_frozen hg2 (by omega) (by omega)).trans g2
  have q3 : w2.frozen? ⟨w.heap.size + 1, 1, none⟩ = false := (keep_frozen hg2 (by omega) (by omega)).trans g3
  have hbel2 := gb_below hbel hg2 (by omega)
  have hz2 : w.heap.size + 1 < w2.heap.size := by have := hg2.size; omega
  have HO := Lib.hid hown
  obtain ⟨A, n, c, rfl, -, -, -⟩ := hown
  have hp1 := hc1.lt
  have hs2 := hg2.size
  clear hg2 c0 c1 c2 c3 g0 g1 g2 g3
  go_wp2
  go_region_with
    (first
      | (go_at_call 56
         refine (draw_any p a len cap zs _ hl (by first | exact hc2.alloc _ | exact (hc2.alloc _).drew | exact hc2.drew.alloc _) (by first | exact CurRow.start hr (hbel2.alloc hbel2.size _) (by omega) | exact CurRow.start hr (hbel2.alloc hbel2.size _).drew (by omega))).mono ?_
         rintro e w3 ⟨u, m, rfl, hown3, hm100, hc3, hg3⟩
         have k0 : w3.cell? ⟨w2.heap.size, 0, none⟩ = some (.int .i64 l.base) := keep_cell hg3 (by simp [go_sem]) (by omega)
         have k1 : w3.cell? ⟨w2.heap.size, 1, none⟩ = some (.slice A n c) := keep_cell hg3 (by simp [go_sem]) (by omega)
         have e0 := keep_cell (g := w.heap.size) (i := 0) hg3 (by simp [go_sem, show w.heap.size < w2.heap.size by omega, e0]; rfl) (by omega)
         have e1 := keep_cell (g := w.heap.size) (i := 1) hg3 (by simp [go_sem, show w.heap.size < w2.heap.size by omega, e1]; rfl) (by omega)
         have e2 := keep_cell (g := w.heap.size + 1) (i := 0) hg3 (by simp [go_sem, hz2, e2]; rfl) (by omega)
         have e3 := keep_cell (g := w.heap.size + 1) (i := 1) hg3 (by simp [go_sem, hz2, e3]; rfl) (by omega)
         have q0 : w3.frozen? ⟨w.heap.size, 0, none⟩ = false := (keep_frozen hg3 (by simp; omega) (by omega)).trans (by simp [go_sem, show w.heap.size < w2.heap.size by omega, q0])
         have q1 : w3.frozen? ⟨w.heap.size, 1, none⟩ = false := (keep_frozen hg3 (by simp; omega) (by omega)).trans (by simp [go_sem, show w.heap.size < w2.heap.size by omega, q1])
         have q2 : w3.frozen? ⟨w.heap.size + 1, 0, none⟩ = false := (keep_frozen hg3 (by simp; omega) (by omega)).trans (by simp [go_sem, hz2, q2])
         have q3 : w3.frozen? ⟨w.heap.size + 1, 1, none⟩ = false := (keep_frozen hg3 (by simp; omega) (by omega)).trans (by simp [go_sem, hz2, q3])
         have HO3 : Hid (OwnLab w1.heap.size w3 _ l) := Lib.hid (OwnLab.kept (w := w2) HO.out (gb_trans (by first | exact World.grownBy_alloc _ _ _ | exact gb_drew (World.grownBy_alloc _ _ _)) hg3) (fun k hk => by have := Option.some.inj hk; omega))
         have HB3 : Hid (Below w.heap.size w w3) := Lib.hid (hbel2.grown (gb_trans (by first | exact World.grownBy_alloc _ _ _ | exact gb_drew (World.grownBy_alloc _ _ _)) hg3) hbel2.size (fun k hk => by have := Option.some.inj hk; omega))
         have HM : Hid (OwnLab w1.heap.size w3 u m) := Lib.hid (hown3.lower (by simp; omega))
         have hz3 : w.heap.size + 1 < w3.heap.size := block_lt_of_cell e2
         obtain ⟨A3, n3, c3, rfl, -, -, -⟩ := hown3
         clear hg3 hc3))
  all_goals
    go_wp2
    refine bodyPost_ret (v := .tuple #[.agg #[.int .i64 l.base, .slice A n c], .agg #[.int .i64 m.base, .slice A3 n3 c3]]) (by simp [results, Try.results31, go_sem, e0, e1, e2, e3]) rfl ?_
    have b1 : w.heap.size < w1.heap.size := by omega
    exact ⟨_, _, l, m, rfl, ((((HO3.out.past b1).past b1).past hz).past hz).rd, h100, ((((HM.out.past b1).past b1).past hz).past hz).rd, hm100, (((HB3.out.setCell (by simp only []; omega) _).setCell (by simp only []; omega) _).setCell (by simp only []; omega) _).setCell (by simp only []; omega) _⟩
end Go.Proofs.Ytobggbejkfkodaa
