/-
  What the draws of chapter 2 hand out, more: a label and numbers.
-/
import Derived.Test.YtobggbejkfkodaaDrawLabs
namespace Go.Proofs.Ytobggbejkfkodaa
set_option maxRecDepth 100000
open Go.RowKit

theorem OwnLab.alloc {base : Nat} {w : World} {v : Value} {l : Lab} (h : OwnLab base w v l) (o : Obj) : OwnLab base (w.alloc o) v l := h.below ((Below.refl _ _).alloc (Nat.le_refl _) o)
theorem pick7 {k : Nat} {x0 x1 x2 x3 x4 x5 x6 : Int} (hk : k < 7) : ∃ tv : Int, (#[Value.int .i64 x0, .int .i64 x1, .int .i64 x2, .int .i64 x3, .int .i64 x4, .int .i64 x5, .int .i64 x6] : Array Value)[k]? = some (.int .i64 tv) := by
  match k, hk with
  | 0, _ => exact ⟨_, rfl⟩
  | 1, _ => exact ⟨_, rfl⟩
  | 2, _ => exact ⟨_, rfl⟩
  | 3, _ => exact ⟨_, rfl⟩
  | 4, _ => exact ⟨_, rfl⟩
  | 5, _ => exact ⟨_, rfl⟩
  | 6, _ => exact ⟨_, rfl⟩

set_option maxHeartbeats 2000000 in
theorem draw_levelof (a : Option Addr) (len cap : Nat) (zs : List Int) (w : World) (hl : len ≤ 4096) (hr : IsRow .u8 w a len cap zs) : Calls Try.prog 30 #[.slice a len cap] w (DrLab1 w) := by
  go_enter Try.func30, Try.ntmps30
  go_wp2_with fail
  refine (new_any a len cap zs _ hl (hr.below ((Below.refl _ _).alloc (Nat.le_refl _) _))).mono ?_
  rintro e w1 ⟨p, hp, rfl, hc1, hb1⟩
  obtain ⟨c0, c1, hz, hbel⟩ := box2 hb1
  have g0 : w1.frozen? ⟨w.heap.size, 0, none⟩ = false := (hb1.frozen (by simp)).trans (by simp [go_sem])
  have g1 : w1.frozen? ⟨w.heap.size, 1, none⟩ = false := (hb1.frozen (by simp)).trans (by simp [go_sem])
  have hp' : w.heap.size < p := by simp at hp; omega
  clear hb1 hp
  go_wp2_with fail
  refine (draw_any p a len cap zs _ hl hc1 (CurRow.start hr hbel (by omega))).mono ?_
  rintro e w2 ⟨v, l, rfl, hown, h100, hc2, hg2⟩
  have e0 := keep_cell hg2 c0 (by omega)
  have e1 := keep_cell hg2 c1 (by omega)
  have q0 := (keep_frozen hg2 (by omega) (by omega)).trans g0
  have q1 := (keep_frozen hg2 (by omega) (by omega)).trans g1
  have hbel2 := gb_below hbel hg2 (by omega)
  have HO := Lib.hid hown
  obtain ⟨A, n, c, rfl, -, -, -⟩ := hown
  have hp1 := hc1.lt
  have hs2 := hg2.size
  clear hg2 c0 c1 g0 g1
  go_wp2_with fail
  refine (once_any p a len cap zs _ _ hl (by omega) (by omega) (hc2.alloc _) (CurRow.start hr (hbel2.alloc hbel2.size _) (by omega))).mono ?_
  rintro e w3 ⟨b, rfl, hc3, hg3⟩
  have k0 : w3.cell? ⟨w2.heap.size, 0, none⟩ = some (.int .i64 l.base) := keep_cell hg3 (by simp [go_sem]) (by omega)
  have k1 : w3.cell? ⟨w2.heap.size, 1, none⟩ = some (.slice A n c) := keep_cell hg3 (by simp [go_sem]) (by omega)
  have e0 := keep_cell (g := w.heap.size) (i := 0) hg3 (by simp [go_sem, show w.heap.size < w2.heap.size by omega, e0]; rfl) (by omega)
  have e1 := keep_cell (g := w.heap.size) (i := 1) hg3 (by simp [go_sem, show w.heap.size < w2.heap.size by omega, e1]; rfl) (by omega)
  have q0 : w3.frozen? ⟨w.heap.size, 0, none⟩ = false := (keep_frozen hg3 (by simp; omega) (by omega)).trans (by simp [go_sem, show w.heap.size < w2.heap.size by omega, q0])
  have q1 : w3.frozen? ⟨w.heap.size, 1, none⟩ = false := (keep_frozen hg3 (by simp; omega) (by omega)).trans (by simp [go_sem, show w.heap.size < w2.heap.size by omega, q1])
  have HO3 : Hid (OwnLab w1.heap.size w3 _ l) := Lib.hid (OwnLab.kept (w := w2) HO.out (gb_trans (World.grownBy_alloc _ _ _) hg3) (fun k hk => by have := Option.some.inj hk; omega))
  have hbel3 : Below w.heap.size w w3 := hbel2.grown (gb_trans (World.grownBy_alloc _ _ _) hg3) hbel2.size (fun k hk => by have := Option.some.inj hk; omega)
  have hz3 : w2.heap.size < w3.heap.size := block_lt_of_cell k0
  have hzr : w.heap.size < w3.heap.size := block_lt_of_cell e0
  have hne : w.heap.size ≠ w2.heap.size := by omega
  have hne2 : w2.heap.size ≠ w.heap.size := by omega
  clear hg3 HO hc2
  cases b
  · -- a number of a table
    go_wp2
    go_region_with
      (first
        | (go_at_call 59
           refine (below_any p a len cap zs _ _ hl (by omega) (by omega) (by first | exact hc3.alloc _ | exact (hc3.alloc _).drew | exact hc3.drew | exact hc3) (by first | exact CurRow.start hr (hbel3.alloc hbel3.size _) (by omega) | exact CurRow.start hr (hbel3.alloc hbel3.size _).drew (by omega) | exact CurRow.start hr hbel3.drew (by omega) | exact CurRow.start hr hbel3 (by omega))).mono ?_
           rintro e w4 ⟨x, hx0, hx1, rfl, hc4, hg4⟩
           obtain ⟨xk, rfl⟩ := Int.eq_ofNat_of_zero_le hx0
           obtain ⟨tv, harr⟩ : ∃ tv : Int, (#[Value.int .i64 0, .int .i64 1, .int .i64 100, .int .i64 101, .int .i64 200, .int .i64 301, .int .i64 5] : Array Value)[xk]? = some (.int .i64 tv) := pick7 (by omega)
           try (have htv : w4.cell? ⟨w3.heap.size, xk, none⟩ = some (.int .i64 tv) := keep_cell hg4 (by exact (World.cell?_alloc_new _ _ _ _).trans harr) (by have := hc3.lt; omega))
           have HG4 : Hid (w3.grownBy w4 (some p)) := Lib.hid (by first | exact gb_trans (World.grownBy_alloc _ _ _) hg4 | exact gb_trans (gb_drew (World.grownBy_alloc _ _ _)) hg4 | exact gb_trans (gb_drew (World.grownBy.refl _ _)) hg4 | exact hg4)
           have k0 : w4.cell? ⟨w2.heap.size, 0, none⟩ = some (.int .i64 l.base) := keep_cell HG4.out k0 (by omega)
           have k1 : w4.cell? ⟨w2.heap.size, 1, none⟩ = some (.slice A n c) := keep_cell HG4.out k1 (by omega)
           have e0 := keep_cell HG4.out e0 (by omega)
           have e1 := keep_cell HG4.out e1 (by omega)
           have q0 := (keep_frozen HG4.out hzr (by omega)).trans q0
           have q1 := (keep_frozen HG4.out hzr (by omega)).trans q1
           have hz4 : w2.heap.size < w4.heap.size := block_lt_of_cell k0
           have hzr4 : w.heap.size < w4.heap.size := block_lt_of_cell e0
           have HO4 : Hid (OwnLab w1.heap.size w4 _ l) := Lib.hid (HO3.out.kept HG4.out (fun k hk => by have := Option.some.inj hk; omega))
           have HB4 : Hid (Below w.heap.size w w4) := Lib.hid (hbel3.grown HG4.out hbel3.size (fun k hk => by have := Option.some.inj hk; omega))
           clear hg4))
    all_goals
      go_wp2
      refine bodyPost_ret (v := .tuple #[.agg #[.int .i64 l.base, .slice A n c], .int .i64 tv]) (by first | (simp [results, Try.results30, go_sem, e0, e1]; done) | (simp [results, Try.results30, go_sem, e0, e1, hzr4]; done)) rfl ?_
      have hB4 := HB4.out
      refine ⟨_, l, tv, rfl, OwnLab.lower (base := w1.heap.size) ?_ (by omega), h100, ?_⟩
      · repeat (first | exact HO4.out | refine OwnLab.past ?_ hz | refine OwnLab.alloc ?_ _)
      · go_grown
  · -- a number, whatever
    go_wp2
    go_region_held3 (fun w' => w'.cell? ⟨w2.heap.size, 0, none⟩ = some (.int .i64 l.base) ∧ w'.cell? ⟨w2.heap.size, 1, none⟩ = some (.slice A n c))
      (first | exact ⟨k0, k1⟩ | go_keep)
      (first
        | (go_at_call 58
           refine (num_any p a len cap zs _ _ hl (by omega) (by omega) (by first | exact hc3 | exact hc3.drew) (by first | exact CurRow.start hr hbel3 (by omega) | exact CurRow.start hr hbel3.drew (by omega))).mono ?_
           rintro e w4 ⟨x, rfl, hc4, hg4⟩
           have HG4 : Hid (w3.grownBy w4 (some p)) := Lib.hid (by first | exact hg4 | exact gb_undrew hg4)
           have k0 : w4.cell? ⟨w2.heap.size, 0, none⟩ = some (.int .i64 l.base) := keep_cell HG4.out k0 (by omega)
           have k1 : w4.cell? ⟨w2.heap.size, 1, none⟩ = some (.slice A n c) := keep_cell HG4.out k1 (by omega)
           have e0 := keep_cell HG4.out e0 (by omega)
           have e1 := keep_cell HG4.out e1 (by omega)
           have q0 := (keep_frozen HG4.out hzr (by omega)).trans q0
           have q1 := (keep_frozen HG4.out hzr (by omega)).trans q1
           have hz4 : w2.heap.size < w4.heap.size := block_lt_of_cell k0
           have hzr4 : w.heap.size < w4.heap.size := block_lt_of_cell e0
           have HO4 : Hid (OwnLab w1.heap.size w4 _ l) := Lib.hid (HO3.out.kept HG4.out (fun k hk => by have := Option.some.inj hk; omega))
           have HB4 : Hid (Below w.heap.size w w4) := Lib.hid (hbel3.grown HG4.out hbel3.size (fun k hk => by have := Option.some.inj hk; omega))
           clear hg4 hc4))
    go_wp2
    refine bodyPost_ret (v := .tuple #[.agg #[.int .i64 l.base, .slice A n c], .int .i64 x]) (by simp [results, Try.results30, go_sem, e0, e1]) rfl ?_
    exact ⟨_, l, x, rfl, ((HO4.out.past hz).past hz).lower (by omega), h100, (HB4.out.setCell (by simp) _).setCell (by simp) _⟩
end Go.Proofs.Ytobggbejkfkodaa
