/-
  What the draws of chapter 2 hand out, more: a label and two numbers.
-/
import Derived.Test.YtobggbejkfkodaaDrawLabs2
namespace Go.Proofs.Ytobggbejkfkodaa
set_option maxRecDepth 100000
open Go.RowKit
set_option maxHeartbeats 2000000 in
theorem draw_with (a : Option Addr) (len cap : Nat) (zs : List Int) (w : World) (hl : len ≤ 4096) (hr : IsRow .u8 w a len cap zs) : Calls Try.prog 28 #[.slice a len cap] w (DrLab2 w) := by
  go_enter Try.func28, Try.ntmps28
  go_wp2_with fail
  refine (new_any a len cap zs _ hl (hr.below ((Below.refl _ _).alloc (Nat.le_refl _) _))).mono ?_
  rintro e w1 ⟨p, hp, rfl, hc1, hb1⟩
  obtain ⟨c0, c1, hz, hbel⟩ := box2 hb1
  have g0 : w1.frozen? ⟨w.heap.size, 0, none⟩ = false := (hb1.frozen (by simp)).trans (by simp [go_sem])
  have g1 : w1.frozen? ⟨w.heap.size, 1, none⟩ = false := (hb1.frozen (by simp)).trans (by simp [go_sem])
  have hp' : w.heap.size < p := by simp at hp; omega
  clear hb1 hp
  go_wp2_with fail
  refine (draw_levelof a len cap zs _ hl (hr.below hbel)).mono ?_
  rintro e w2 ⟨v, l, x, rfl, hrd, h100, hb2⟩
  have e0 := (hb2.cell (p := ⟨w.heap.size, 0, none⟩) hz).trans c0
  have e1 := (hb2.cell (p := ⟨w.heap.size, 1, none⟩) hz).trans c1
  have q0 := (hb2.frozen (p := ⟨w.heap.size, 0, none⟩) hz).trans g0
  have q1 := (hb2.frozen (p := ⟨w.heap.size, 1, none⟩) hz).trans g1
  have hc2 : IsCur p a len cap w2 := hc1.block (hb2.block p hc1.lt)
  have hbel2 := below_more hbel hb2
  have HO := Lib.hid hrd
  obtain ⟨A, n, c, rfl, -, -, -⟩ := hrd
  have hp1 := hc1.lt
  have hz2 := block_lt_of_cell e0
  have hs2 := hb2.size
  have hne : w.heap.size ≠ w2.heap.size := by omega
  have hne2 : w2.heap.size ≠ w.heap.size := by omega
  clear hb2 c0 c1 g0 g1
  go_wp2
  go_region_held3 (fun w' => w'.cell? ⟨w2.heap.size, 0, none⟩ = some (.int .i64 l.base) ∧ w'.cell? ⟨w2.heap.size, 1, none⟩ = some (.slice A n c))
    (first | exact ⟨k0, k1⟩ | go_keep)
    (first
      | (go_at_call 55
         refine (from_any p a len cap zs _ _ _ hl (by omega) (by omega) (by omega) (by first | exact hc2.alloc _ | exact (hc2.alloc _).drew) (by first | exact CurRow.start hr (hbel2.alloc hbel2.size _) (by omega) | exact CurRow.start hr (hbel2.alloc hbel2.size _).drew (by omega))).mono ?_
         rintro e w4 ⟨y, hy0, hy1, rfl, hc4, hg4⟩
         have HG4 : Hid (w2.grownBy w4 (some p)) := Lib.hid (by first | exact gb_trans (World.grownBy_alloc _ _ _) hg4 | exact gb_trans (gb_drew (World.grownBy_alloc _ _ _)) hg4)
         have k0 : w4.cell? ⟨w2.heap.size, 0, none⟩ = some (.int .i64 l.base) := keep_cell hg4 (by simp [go_sem]) (by omega)
         have k1 : w4.cell? ⟨w2.heap.size, 1, none⟩ = some (.slice A n c) := keep_cell hg4 (by simp [go_sem]) (by omega)
         have e0 := keep_cell HG4.out e0 (by omega)
         have e1 := keep_cell HG4.out e1 (by omega)
         have q0 := (keep_frozen HG4.out hz2 (by omega)).trans q0
         have q1 := (keep_frozen HG4.out hz2 (by omega)).trans q1
         have hz4 : w2.heap.size < w4.heap.size := block_lt_of_cell k0
         have HO4 : Hid (OwnLab w1.heap.size w4 _ l) := Lib.hid (HO.out.kept HG4.out (fun k hk => by have := Option.some.inj hk; omega))
         have HB4 : Hid (Below w.heap.size w w4) := Lib.hid (hbel2.grown HG4.out hbel2.size (fun k hk => by have := Option.some.inj hk; omega))
         clear hg4 hc4))
  go_wp2
  refine bodyPost_ret (v := .tuple #[.agg #[.int .i64 l.base, .slice A n c], .int .i64 x, .int .i64 y]) (by simp [results, Try.results28, go_sem, e0, e1]) rfl ?_
  exact ⟨_, l, x, y, rfl, ((HO4.out.past hz).past hz).rd, h100, (HB4.out.setCell (by simp) _).setCell (by simp) _⟩
end Go.Proofs.Ytobggbejkfkodaa
