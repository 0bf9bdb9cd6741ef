/-
  FnExactAtMost: whatever the input, the law returns true and its arguments read as they did; no condition.
-/
import Derived.Test.YtoaglephpkmaeaaBase
import Derived.Test.YtoaglephpkmaeaaRows
import Derived.Test.YtoaglephpkmaeaaOpen
import Derived.Test.YtoaglephpkmaeaaHas
import Derived.Test.YtoaglephpkmaeaaSpecOrd
import Derived.Test.YtoaglephpkmaeaaImplOrd
namespace Go.Proofs.Ytoaglephpkmaeaa.fnExactAtMost
set_option maxRecDepth 100000
open Go.ChangeShapes Go.WideShapes Go.ChangeAt Go.RowKit
open Go.ChangeMaps (open_string shut_string)
set_option linter.unusedVariables false

set_option maxHeartbeats 8000000 in
theorem walk {w : World} (v0 : Value) (l : Lab) (h0 : ArgLab w v0 l) (v1 : Value) (m : Lab) (h1 : ArgLab w v1 m) :
    Calls Try.prog 4 #[v0, v1] w fun e w' => e = .returned (.bool true) ∧ Below w.heap.size w w' := by
  have g0 := h0
  obtain ⟨A, n, c, rfl, hn0, hc0, hm0, -⟩ := h0
  have hm0' : n ≤ 9223372036854775807 := by unfold maxLen at hm0; omega
  have g1 := h1
  obtain ⟨B, n', d, rfl, hn1, hc1, hm1, -⟩ := h1
  have hm1' : n' ≤ 9223372036854775807 := by unfold maxLen at hm1; omega
  clear hc0 hm0 hc1 hm1
  by_cases hbig0 : n ≤ 1048576
  · have hr := g0.rd (by omega)
    have hln0 : l.parts.length ≤ 1048576 := by omega
    by_cases hbig1 : n + n' ≤ 1048576
    · have hq := g1.rd (by omega)
      have hln1 : m.parts.length ≤ 1048576 := by omega
      clear hn0 g0 hn1 g1
      go_enter Try.func4, Try.ntmps4
      go_wp2_with fail
      refine (sz_lab_yes A n c l.base 1048576 _ (by omega) (by omega) (by omega)).mono ?_
      rintro e w1 ⟨rfl, hb⟩
      obtain ⟨⟨Pc0, Pc1⟩, ⟨Qc0, Qc1⟩, Qz, bel⟩ := box4 hb
      have Pz : w.heap.size < w1.heap.size := by omega
      have sz1 := Qz
      have hge : ¬ (1048576 : Int) - n < 0 := by omega
      clear hb
      have hge1 : ¬ (1048576 : Int) - n - n' < 0 := by omega
      go_wp2_with fail
      refine (sz_lab_yes B n' d m.base (1048576 - n) _ (by omega) (by omega) (by omega)).mono ?_
      rintro e w2 ⟨rfl, hb⟩
      have sz2 : w1.heap.size ≤ w2.heap.size := by have := hb.size; simpa using this
      have Pc0' : w2.cell? ⟨w.heap.size, 0, none⟩ = some (.int .i64 l.base) := (hb.cell (by simp; omega)).trans (by first | exact Pc0 | (simp [go_sem, Pz, Pc0]; done))
      have Pc1' : w2.cell? ⟨w.heap.size, 1, none⟩ = some (.slice A n c) := (hb.cell (by simp; omega)).trans (by first | exact Pc1 | (simp [go_sem, Pz, Pc1]; done))
      have Qc0' : w2.cell? ⟨w.heap.size + 1, 0, none⟩ = some (.int .i64 m.base) := (hb.cell (by simp; omega)).trans (by first | exact Qc0 | (simp [go_sem, Qz, Qc0]; done))
      have Qc1' : w2.cell? ⟨w.heap.size + 1, 1, none⟩ = some (.slice B n' d) := (hb.cell (by simp; omega)).trans (by first | exact Qc1 | (simp [go_sem, Qz, Qc1]; done))
      clear Pc0 Pc1 Qc0 Qc1 Pz Qz
      have Pc0 := Pc0'
      have Pc1 := Pc1'
      have Pz := block_lt_of_cell Pc0
      have Qc0 := Qc0'
      have Qc1 := Qc1'
      have Qz := block_lt_of_cell Qc0
      clear Pc0' Pc1' Qc0' Qc1'
      have bel' : Below w.heap.size w w2 := bel.trans ((by first | exact hb | exact over_alloc hb | exact below_undrew hb : Below w1.heap.size w1 w2).mono bel.size)
      clear bel hb
      have bel := bel'
      clear bel'
      have HC := Lib.hid (Below.refl w2.heap.size w2)
      go_wp2
      go_region_held3 (fun w' => w'.cell? ⟨w.heap.size, 0, none⟩ = some (.int .i64 l.base) ∧ w'.cell? ⟨w.heap.size, 1, none⟩ = some (.slice A n c) ∧ w'.cell? ⟨w.heap.size + 1, 0, none⟩ = some (.int .i64 m.base) ∧ w'.cell? ⟨w.heap.size + 1, 1, none⟩ = some (.slice B n' d))
        (first | exact ⟨ff0, ff1, ff2, ff3⟩ | go_keep)
        (first
        | (go_at_call_of 18 (Value.agg #[Value.int IntKind.i64 l.base, Value.slice A n c])
           refine (to_lab _ l _ (by first | exact hr.below (below_more bel HC.out) | exact (hr.below (below_more bel HC.out)).alloc _ | exact (hr.below (below_more bel HC.out)).drew | exact ((hr.below (below_more bel HC.out)).alloc _).drew | exact ((hr.below (below_more bel HC.out)).drew).alloc _)).mono ?_
           rintro e wn ⟨vv, rfl, own, hb⟩
           have HC' : Hid (Below w2.heap.size w2 wn) := Lib.hid (by first | exact below_more HC.out hb | exact below_more HC.out (over_alloc hb) | exact below_more HC.out (below_undrew hb) | exact below_more HC.out (over_alloc (below_dr hb)) | exact below_more HC.out (below_undrew (over_alloc hb)))
           clear HC
           have HC := HC'
           clear HC'
           try clear ff0 ff1 ff2 ff3
           have ff0 : wn.cell? ⟨w.heap.size, 0, none⟩ = some (.int .i64 l.base) := (HC.out.cell (by exact Pz)).trans (by exact Pc0)
           have ff1 : wn.cell? ⟨w.heap.size, 1, none⟩ = some (.slice A n c) := (HC.out.cell (by exact Pz)).trans (by exact Pc1)
           have ff2 : wn.cell? ⟨w.heap.size + 1, 0, none⟩ = some (.int .i64 m.base) := (HC.out.cell (by exact Qz)).trans (by exact Qc0)
           have ff3 : wn.cell? ⟨w.heap.size + 1, 1, none⟩ = some (.slice B n' d) := (HC.out.cell (by exact Qz)).trans (by exact Qc1)
           try (have R0' := Lib.hid (R0.out.below (by first | exact hb | exact over_alloc hb | exact below_undrew hb | exact over_alloc (below_dr hb) | exact below_undrew (over_alloc hb)))
                clear R0
                have R0 := R0'
                clear R0')
           try (have R1' := Lib.hid (R1.out.below (by first | exact hb | exact over_alloc hb | exact below_undrew hb | exact over_alloc (below_dr hb) | exact below_undrew (over_alloc hb)))
                clear R1
                have R1 := R1'
                clear R1')
           have R0 := Lib.hid own.rd
           obtain ⟨A30, n30, c30, rfl, -, -, -⟩ := own
           clear hb)
        | (go_at_call_of 18 (Value.agg #[Value.int IntKind.i64 m.base, Value.slice B n' d])
           refine (to_lab _ m _ (by first | exact hq.below (below_more bel HC.out) | exact (hq.below (below_more bel HC.out)).alloc _ | exact (hq.below (below_more bel HC.out)).drew | exact ((hq.below (below_more bel HC.out)).alloc _).drew | exact ((hq.below (below_more bel HC.out)).drew).alloc _)).mono ?_
           rintro e wn ⟨vv, rfl, own, hb⟩
           have HC' : Hid (Below w2.heap.size w2 wn) := Lib.hid (by first | exact below_more HC.out hb | exact below_more HC.out (over_alloc hb) | exact below_more HC.out (below_undrew hb) | exact below_more HC.out (over_alloc (below_dr hb)) | exact below_more HC.out (below_undrew (over_alloc hb)))
           clear HC
           have HC := HC'
           clear HC'
           try clear ff0 ff1 ff2 ff3
           have ff0 : wn.cell? ⟨w.heap.size, 0, none⟩ = some (.int .i64 l.base) := (HC.out.cell (by exact Pz)).trans (by exact Pc0)
           have ff1 : wn.cell? ⟨w.heap.size, 1, none⟩ = some (.slice A n c) := (HC.out.cell (by exact Pz)).trans (by exact Pc1)
           have ff2 : wn.cell? ⟨w.heap.size + 1, 0, none⟩ = some (.int .i64 m.base) := (HC.out.cell (by exact Qz)).trans (by exact Qc0)
           have ff3 : wn.cell? ⟨w.heap.size + 1, 1, none⟩ = some (.slice B n' d) := (HC.out.cell (by exact Qz)).trans (by exact Qc1)
           try (have R0' := Lib.hid (R0.out.below (by first | exact hb | exact over_alloc hb | exact below_undrew hb | exact over_alloc (below_dr hb) | exact below_undrew (over_alloc hb)))
                clear R0
                have R0 := R0'
                clear R0')
           try (have R1' := Lib.hid (R1.out.below (by first | exact hb | exact over_alloc hb | exact below_undrew hb | exact over_alloc (below_dr hb) | exact below_undrew (over_alloc hb)))
                clear R1
                have R1 := R1'
                clear R1')
           have R1 := Lib.hid own.rd
           obtain ⟨A31, n31, c31, rfl, -, -, -⟩ := own
           clear hb)
        | (go_at_call 16
           refine (spec_atmost _ _ l m _ R0.out R1.out).mono ?_
           rintro e wn ⟨rfl, hb⟩
           have HC' : Hid (Below w2.heap.size w2 wn) := Lib.hid (by first | exact below_more HC.out hb | exact below_more HC.out (over_alloc hb) | exact below_more HC.out (below_undrew hb) | exact below_more HC.out (over_alloc (below_dr hb)) | exact below_more HC.out (below_undrew (over_alloc hb)))
           clear HC
           have HC := HC'
           clear HC'
           try clear ff0 ff1 ff2 ff3
           have ff0 : wn.cell? ⟨w.heap.size, 0, none⟩ = some (.int .i64 l.base) := (HC.out.cell (by exact Pz)).trans (by exact Pc0)
           have ff1 : wn.cell? ⟨w.heap.size, 1, none⟩ = some (.slice A n c) := (HC.out.cell (by exact Pz)).trans (by exact Pc1)
           have ff2 : wn.cell? ⟨w.heap.size + 1, 0, none⟩ = some (.int .i64 m.base) := (HC.out.cell (by exact Qz)).trans (by exact Qc0)
           have ff3 : wn.cell? ⟨w.heap.size + 1, 1, none⟩ = some (.slice B n' d) := (HC.out.cell (by exact Qz)).trans (by exact Qc1)
           try (have R0' := Lib.hid (R0.out.below (by first | exact hb | exact over_alloc hb | exact below_undrew hb | exact over_alloc (below_dr hb) | exact below_undrew (over_alloc hb)))
                clear R0
                have R0 := R0'
                clear R0')
           try (have R1' := Lib.hid (R1.out.below (by first | exact hb | exact over_alloc hb | exact below_undrew hb | exact over_alloc (below_dr hb) | exact below_undrew (over_alloc hb)))
                clear R1
                have R1 := R1'
                clear R1')
           skip
           clear hb))
      obtain ⟨w3, hw3⟩ : ∃ w3, w3 = wn := ⟨_, rfl⟩
      rw [← hw3] at HC ⊢
      have hb := HC.out
      clear HC hw3 ff0 ff1 ff2 ff3 R0 R1
      have sz3 : w2.heap.size ≤ w3.heap.size := by have := hb.size; simpa using this
      have Pc0' : w3.cell? ⟨w.heap.size, 0, none⟩ = some (.int .i64 l.base) := (hb.cell (by simp; omega)).trans (by first | exact Pc0 | (simp [go_sem, Pz, Pc0]; done))
      have Pc1' : w3.cell? ⟨w.heap.size, 1, none⟩ = some (.slice A n c) := (hb.cell (by simp; omega)).trans (by first | exact Pc1 | (simp [go_sem, Pz, Pc1]; done))
      have Qc0' : w3.cell? ⟨w.heap.size + 1, 0, none⟩ = some (.int .i64 m.base) := (hb.cell (by simp; omega)).trans (by first | exact Qc0 | (simp [go_sem, Qz, Qc0]; done))
      have Qc1' : w3.cell? ⟨w.heap.size + 1, 1, none⟩ = some (.slice B n' d) := (hb.cell (by simp; omega)).trans (by first | exact Qc1 | (simp [go_sem, Qz, Qc1]; done))
      clear Pc0 Pc1 Qc0 Qc1 Pz Qz
      have Pc0 := Pc0'
      have Pc1 := Pc1'
      have Pz := block_lt_of_cell Pc0
      have Qc0 := Qc0'
      have Qc1 := Qc1'
      have Qz := block_lt_of_cell Qc0
      clear Pc0' Pc1' Qc0' Qc1'
      have bel' : Below w.heap.size w w3 := bel.trans ((by first | exact hb | exact over_alloc hb | exact below_undrew hb : Below w2.heap.size w2 w3).mono bel.size)
      clear bel hb
      have bel := bel'
      clear bel'
      go_wp2_with fail
      refine (to_lab _ l _ (by first | exact hr.below bel | exact hr.below (bel.alloc bel.size _))).mono ?_
      rintro e w4 ⟨v4, rfl, own, hb⟩
      have X0r : Hid (∀ k, (labRow v4).ownBlock = some k → w3.heap.size ≤ k ∧ k < w4.heap.size) := fun k hk => by have := own.row k hk; simpa using this
      have sz4 : w3.heap.size ≤ w4.heap.size := by have := hb.size; simpa using this
      have Pc0' : w4.cell? ⟨w.heap.size, 0, none⟩ = some (.int .i64 l.base) := (hb.cell (by simp; omega)).trans (by first | exact Pc0 | (simp [go_sem, Pz, Pc0]; done))
      have Pc1' : w4.cell? ⟨w.heap.size, 1, none⟩ = some (.slice A n c) := (hb.cell (by simp; omega)).trans (by first | exact Pc1 | (simp [go_sem, Pz, Pc1]; done))
      have Qc0' : w4.cell? ⟨w.heap.size + 1, 0, none⟩ = some (.int .i64 m.base) := (hb.cell (by simp; omega)).trans (by first | exact Qc0 | (simp [go_sem, Qz, Qc0]; done))
      have Qc1' : w4.cell? ⟨w.heap.size + 1, 1, none⟩ = some (.slice B n' d) := (hb.cell (by simp; omega)).trans (by first | exact Qc1 | (simp [go_sem, Qz, Qc1]; done))
      clear Pc0 Pc1 Qc0 Qc1 Pz Qz
      have Pc0 := Pc0'
      have Pc1 := Pc1'
      have Pz := block_lt_of_cell Pc0
      have Qc0 := Qc0'
      have Qc1 := Qc1'
      have Qz := block_lt_of_cell Qc0
      clear Pc0' Pc1' Qc0' Qc1'
      have bel' : Below w.heap.size w w4 := bel.trans ((by first | exact hb | exact over_alloc hb | exact below_undrew hb : Below w3.heap.size w3 w4).mono bel.size)
      clear bel hb
      have bel := bel'
      clear bel'
      have X0 := Lib.hid own
      obtain ⟨A4, n4, c4, rfl, -, -, -⟩ := own
      go_wp2_with fail
      refine (to_lab _ m _ (by first | exact hq.below bel | exact hq.below (bel.alloc bel.size _))).mono ?_
      rintro e w5 ⟨v5, rfl, own, hb⟩
      have X1r : Hid (∀ k, (labRow v5).ownBlock = some k → w4.heap.size + 1 ≤ k ∧ k < w5.heap.size) := fun k hk => by have := own.row k hk; simpa using this
      have sz5 : w4.heap.size + 1 ≤ w5.heap.size := by have := hb.size; simpa using this
      have Pc0' : w5.cell? ⟨w.heap.size, 0, none⟩ = some (.int .i64 l.base) := (hb.cell (by simp; omega)).trans (by first | exact Pc0 | (simp [go_sem, Pz, Pc0]; done))
      have Pc1' : w5.cell? ⟨w.heap.size, 1, none⟩ = some (.slice A n c) := (hb.cell (by simp; omega)).trans (by first | exact Pc1 | (simp [go_sem, Pz, Pc1]; done))
      have Qc0' : w5.cell? ⟨w.heap.size + 1, 0, none⟩ = some (.int .i64 m.base) := (hb.cell (by simp; omega)).trans (by first | exact Qc0 | (simp [go_sem, Qz, Qc0]; done))
      have Qc1' : w5.cell? ⟨w.heap.size + 1, 1, none⟩ = some (.slice B n' d) := (hb.cell (by simp; omega)).trans (by first | exact Qc1 | (simp [go_sem, Qz, Qc1]; done))
      clear Pc0 Pc1 Qc0 Qc1 Pz Qz
      have Pc0 := Pc0'
      have Pc1 := Pc1'
      have Pz := block_lt_of_cell Pc0
      have Qc0 := Qc0'
      have Qc1 := Qc1'
      have Qz := block_lt_of_cell Qc0
      clear Pc0' Pc1' Qc0' Qc1'
      have Cc0 : w5.cell? ⟨w4.heap.size, 0, none⟩ = some (.int .i64 l.base) := (hb.cell (by simp)).trans (World.cell?_alloc_new _ _ _ 0)
      have Cc1 : w5.cell? ⟨w4.heap.size, 1, none⟩ = some (.slice A4 n4 c4) := (hb.cell (by simp)).trans (World.cell?_alloc_new _ _ _ 1)
      have Cz := block_lt_of_cell Cc0
      have X0' := Lib.hid (by first | exact X0.out.below hb | exact X0.out.over hb | exact X0.out.below (below_undrew hb))
      clear X0
      have X0 := X0'
      clear X0'
      have bel' : Below w.heap.size w w5 := bel.trans ((by first | exact hb | exact over_alloc hb | exact below_undrew hb : Below w4.heap.size w4 w5).mono bel.size)
      clear bel hb
      have bel := bel'
      clear bel'
      have X1 := Lib.hid own
      obtain ⟨A5, n5, c5, rfl, -, -, -⟩ := own
      go_wp2_with fail
      refine (impl_atmost _ _ l m _ (by first | exact X0.out.rd | exact X0.out.rd.alloc _) (by first | exact X1.out.rd | exact X1.out.rd.alloc _)).mono ?_
      rintro e w6 ⟨rfl, hb⟩
      have sz6 : w5.heap.size + 1 ≤ w6.heap.size := by have := hb.size; simpa using this
      have Pc0' : w6.cell? ⟨w.heap.size, 0, none⟩ = some (.int .i64 l.base) := (hb.cell (by simp; omega)).trans (by first | exact Pc0 | (simp [go_sem, Pz, Pc0]; done))
      have Pc1' : w6.cell? ⟨w.heap.size, 1, none⟩ = some (.slice A n c) := (hb.cell (by simp; omega)).trans (by first | exact Pc1 | (simp [go_sem, Pz, Pc1]; done))
      have Qc0' : w6.cell? ⟨w.heap.size + 1, 0, none⟩ = some (.int .i64 m.base) := (hb.cell (by simp; omega)).trans (by first | exact Qc0 | (simp [go_sem, Qz, Qc0]; done))
      have Qc1' : w6.cell? ⟨w.heap.size + 1, 1, none⟩ = some (.slice B n' d) := (hb.cell (by simp; omega)).trans (by first | exact Qc1 | (simp [go_sem, Qz, Qc1]; done))
      have Cc0' : w6.cell? ⟨w4.heap.size, 0, none⟩ = some (.int .i64 l.base) := (hb.cell (by simp; omega)).trans (by first | exact Cc0 | (simp [go_sem, Cz, Cc0]; done))
      have Cc1' : w6.cell? ⟨w4.heap.size, 1, none⟩ = some (.slice A4 n4 c4) := (hb.cell (by simp; omega)).trans (by first | exact Cc1 | (simp [go_sem, Cz, Cc1]; done))
      clear Pc0 Pc1 Qc0 Qc1 Cc0 Cc1 Pz Qz Cz
      have Pc0 := Pc0'
      have Pc1 := Pc1'
      have Pz := block_lt_of_cell Pc0
      have Qc0 := Qc0'
      have Qc1 := Qc1'
      have Qz := block_lt_of_cell Qc0
      have Cc0 := Cc0'
      have Cc1 := Cc1'
      have Cz := block_lt_of_cell Cc0
      clear Pc0' Pc1' Qc0' Qc1' Cc0' Cc1'
      have Dc0 : w6.cell? ⟨w5.heap.size, 0, none⟩ = some (.int .i64 m.base) := (hb.cell (by simp)).trans (World.cell?_alloc_new _ _ _ 0)
      have Dc1 : w6.cell? ⟨w5.heap.size, 1, none⟩ = some (.slice A5 n5 c5) := (hb.cell (by simp)).trans (World.cell?_alloc_new _ _ _ 1)
      have Dz := block_lt_of_cell Dc0
      have X0' := Lib.hid (by first | exact X0.out.below hb | exact X0.out.over hb | exact X0.out.below (below_undrew hb))
      clear X0
      have X0 := X0'
      clear X0'
      have X1' := Lib.hid (by first | exact X1.out.below hb | exact X1.out.over hb | exact X1.out.below (below_undrew hb))
      clear X1
      have X1 := X1'
      clear X1'
      have bel' : Below w.heap.size w w6 := bel.trans ((by first | exact hb | exact over_alloc hb | exact below_undrew hb : Below w5.heap.size w5 w6).mono bel.size)
      clear bel hb
      have bel := bel'
      clear bel'
      have heql := labEq_rfl l
      go_wp2
      go_region_held3 (fun w' => w'.cell? ⟨w.heap.size, 0, none⟩ = some (.int .i64 l.base) ∧ w'.cell? ⟨w.heap.size, 1, none⟩ = some (.slice A n c) ∧ w'.cell? ⟨w.heap.size + 1, 0, none⟩ = some (.int .i64 m.base) ∧ w'.cell? ⟨w.heap.size + 1, 1, none⟩ = some (.slice B n' d) ∧ w'.cell? ⟨w4.heap.size, 0, none⟩ = some (.int .i64 l.base) ∧ w'.cell? ⟨w4.heap.size, 1, none⟩ = some (.slice A4 n4 c4) ∧ w'.cell? ⟨w5.heap.size, 0, none⟩ = some (.int .i64 m.base) ∧ w'.cell? ⟨w5.heap.size, 1, none⟩ = some (.slice A5 n5 c5))
        (first | exact ⟨kb0, kb1, kb2, kb3, kb4, kb5, kb6, kb7⟩ | exact ⟨ka0, ka1, ka2, ka3, ka4, ka5, ka6, ka7⟩ | go_keep)
        (first
        | (go_at_call 18
           refine (to_lab _ l _ (hr.below (by first | exact bel | exact bel.drew))).mono ?_
           rintro e w7 ⟨va, rfl, owna, hba⟩
           have ka0 : w7.cell? ⟨w.heap.size, 0, none⟩ = some (.int .i64 l.base) := (hba.cell (by simp; omega)).trans (by exact Pc0)
           have za0 : w.heap.size < w7.heap.size := block_lt_of_cell ka0
           have ka1 : w7.cell? ⟨w.heap.size, 1, none⟩ = some (.slice A n c) := (hba.cell (by simp; omega)).trans (by exact Pc1)
           have za1 : w.heap.size < w7.heap.size := block_lt_of_cell ka1
           have ka2 : w7.cell? ⟨w.heap.size + 1, 0, none⟩ = some (.int .i64 m.base) := (hba.cell (by simp; omega)).trans (by exact Qc0)
           have za2 : w.heap.size + 1 < w7.heap.size := block_lt_of_cell ka2
           have ka3 : w7.cell? ⟨w.heap.size + 1, 1, none⟩ = some (.slice B n' d) := (hba.cell (by simp; omega)).trans (by exact Qc1)
           have za3 : w.heap.size + 1 < w7.heap.size := block_lt_of_cell ka3
           have ka4 : w7.cell? ⟨w4.heap.size, 0, none⟩ = some (.int .i64 l.base) := (hba.cell (by simp; omega)).trans (by exact Cc0)
           have za4 : w4.heap.size < w7.heap.size := block_lt_of_cell ka4
           have ka5 : w7.cell? ⟨w4.heap.size, 1, none⟩ = some (.slice A4 n4 c4) := (hba.cell (by simp; omega)).trans (by exact Cc1)
           have za5 : w4.heap.size < w7.heap.size := block_lt_of_cell ka5
           have ka6 : w7.cell? ⟨w5.heap.size, 0, none⟩ = some (.int .i64 m.base) := (hba.cell (by simp; omega)).trans (by exact Dc0)
           have za6 : w5.heap.size < w7.heap.size := block_lt_of_cell ka6
           have ka7 : w7.cell? ⟨w5.heap.size, 1, none⟩ = some (.slice A5 n5 c5) := (hba.cell (by simp; omega)).trans (by exact Dc1)
           have za7 : w5.heap.size < w7.heap.size := block_lt_of_cell ka7
           have HBA := Lib.hid hba
           have rda := owna.rd
           have rdx := X0.out.rd.below (by first | exact hba | exact below_undrew hba)
           obtain ⟨Aa, na, ca, rfl, -, -, -⟩ := owna
           clear hba)
        | (go_at_call 19
           refine (eq_lab _ _ l l _ (by exact rdx) (by exact rda)).mono ?_
           rintro e w8 ⟨rfl, hbb⟩
           have kb0 : w8.cell? ⟨w.heap.size, 0, none⟩ = some (.int .i64 l.base) := (hbb.cell (by simp; omega)).trans (by exact ka0)
           have kb1 : w8.cell? ⟨w.heap.size, 1, none⟩ = some (.slice A n c) := (hbb.cell (by simp; omega)).trans (by exact ka1)
           have kb2 : w8.cell? ⟨w.heap.size + 1, 0, none⟩ = some (.int .i64 m.base) := (hbb.cell (by simp; omega)).trans (by exact ka2)
           have kb3 : w8.cell? ⟨w.heap.size + 1, 1, none⟩ = some (.slice B n' d) := (hbb.cell (by simp; omega)).trans (by exact ka3)
           have kb4 : w8.cell? ⟨w4.heap.size, 0, none⟩ = some (.int .i64 l.base) := (hbb.cell (by simp; omega)).trans (by exact ka4)
           have kb5 : w8.cell? ⟨w4.heap.size, 1, none⟩ = some (.slice A4 n4 c4) := (hbb.cell (by simp; omega)).trans (by exact ka5)
           have kb6 : w8.cell? ⟨w5.heap.size, 0, none⟩ = some (.int .i64 m.base) := (hbb.cell (by simp; omega)).trans (by exact ka6)
           have kb7 : w8.cell? ⟨w5.heap.size, 1, none⟩ = some (.slice A5 n5 c5) := (hbb.cell (by simp; omega)).trans (by exact ka7)
           have HBB : Hid (Below w6.heap.size w6 w8) := (by first | exact HBA.out | exact below_undrew HBA.out : Below w6.heap.size w6 w7).trans (hbb.mono (by first | exact HBA.out.size | exact (below_undrew HBA.out).size))
           clear hbb))
      have hb := HBB.out
      clear HBB HBA rda rdx ka0 za0 kb0 ka1 za1 kb1 ka2 za2 kb2 ka3 za3 kb3 ka4 za4 kb4 ka5 za5 kb5 ka6 za6 kb6 ka7 za7 kb7
      have sz8 : w6.heap.size ≤ w8.heap.size := by have := hb.size; simpa using this
      have Pc0' : w8.cell? ⟨w.heap.size, 0, none⟩ = some (.int .i64 l.base) := (hb.cell (by simp; omega)).trans (by first | exact Pc0 | (simp [go_sem, Pz, Pc0]; done))
      have Pc1' : w8.cell? ⟨w.heap.size, 1, none⟩ = some (.slice A n c) := (hb.cell (by simp; omega)).trans (by first | exact Pc1 | (simp [go_sem, Pz, Pc1]; done))
      have Qc0' : w8.cell? ⟨w.heap.size + 1, 0, none⟩ = some (.int .i64 m.base) := (hb.cell (by simp; omega)).trans (by first | exact Qc0 | (simp [go_sem, Qz, Qc0]; done))
      have Qc1' : w8.cell? ⟨w.heap.size + 1, 1, none⟩ = some (.slice B n' d) := (hb.cell (by simp; omega)).trans (by first | exact Qc1 | (simp [go_sem, Qz, Qc1]; done))
      have Cc0' : w8.cell? ⟨w4.heap.size, 0, none⟩ = some (.int .i64 l.base) := (hb.cell (by simp; omega)).trans (by first | exact Cc0 | (simp [go_sem, Cz, Cc0]; done))
      have Cc1' : w8.cell? ⟨w4.heap.size, 1, none⟩ = some (.slice A4 n4 c4) := (hb.cell (by simp; omega)).trans (by first | exact Cc1 | (simp [go_sem, Cz, Cc1]; done))
      have Dc0' : w8.cell? ⟨w5.heap.size, 0, none⟩ = some (.int .i64 m.base) := (hb.cell (by simp; omega)).trans (by first | exact Dc0 | (simp [go_sem, Dz, Dc0]; done))
      have Dc1' : w8.cell? ⟨w5.heap.size, 1, none⟩ = some (.slice A5 n5 c5) := (hb.cell (by simp; omega)).trans (by first | exact Dc1 | (simp [go_sem, Dz, Dc1]; done))
      clear Pc0 Pc1 Qc0 Qc1 Cc0 Cc1 Dc0 Dc1 Pz Qz Cz Dz
      have Pc0 := Pc0'
      have Pc1 := Pc1'
      have Pz := block_lt_of_cell Pc0
      have Qc0 := Qc0'
      have Qc1 := Qc1'
      have Qz := block_lt_of_cell Qc0
      have Cc0 := Cc0'
      have Cc1 := Cc1'
      have Cz := block_lt_of_cell Cc0
      have Dc0 := Dc0'
      have Dc1 := Dc1'
      have Dz := block_lt_of_cell Dc0
      clear Pc0' Pc1' Qc0' Qc1' Cc0' Cc1' Dc0' Dc1'
      have X0' := Lib.hid (by first | exact X0.out.below hb | exact X0.out.over hb | exact X0.out.below (below_undrew hb))
      clear X0
      have X0 := X0'
      clear X0'
      have X1' := Lib.hid (by first | exact X1.out.below hb | exact X1.out.over hb | exact X1.out.below (below_undrew hb))
      clear X1
      have X1 := X1'
      clear X1'
      have bel' : Below w.heap.size w w8 := bel.trans ((by first | exact hb | exact over_alloc hb | exact below_undrew hb : Below w6.heap.size w6 w8).mono bel.size)
      clear bel hb
      have bel := bel'
      clear bel'
      have heqm := labEq_rfl m
      go_wp2
      go_region_held3 (fun w' => w'.cell? ⟨w.heap.size, 0, none⟩ = some (.int .i64 l.base) ∧ w'.cell? ⟨w.heap.size, 1, none⟩ = some (.slice A n c) ∧ w'.cell? ⟨w.heap.size + 1, 0, none⟩ = some (.int .i64 m.base) ∧ w'.cell? ⟨w.heap.size + 1, 1, none⟩ = some (.slice B n' d) ∧ w'.cell? ⟨w4.heap.size, 0, none⟩ = some (.int .i64 l.base) ∧ w'.cell? ⟨w4.heap.size, 1, none⟩ = some (.slice A4 n4 c4) ∧ w'.cell? ⟨w5.heap.size, 0, none⟩ = some (.int .i64 m.base) ∧ w'.cell? ⟨w5.heap.size, 1, none⟩ = some (.slice A5 n5 c5))
        (first | exact ⟨kb0, kb1, kb2, kb3, kb4, kb5, kb6, kb7⟩ | exact ⟨ka0, ka1, ka2, ka3, ka4, ka5, ka6, ka7⟩ | go_keep)
        (first
        | (go_at_call 18
           refine (to_lab _ m _ (hq.below (by first | exact bel | exact bel.drew))).mono ?_
           rintro e w9 ⟨va, rfl, owna, hba⟩
           have ka0 : w9.cell? ⟨w.heap.size, 0, none⟩ = some (.int .i64 l.base) := (hba.cell (by simp; omega)).trans (by exact Pc0)
           have za0 : w.heap.size < w9.heap.size := block_lt_of_cell ka0
           have ka1 : w9.cell? ⟨w.heap.size, 1, none⟩ = some (.slice A n c) := (hba.cell (by simp; omega)).trans (by exact Pc1)
           have za1 : w.heap.size < w9.heap.size := block_lt_of_cell ka1
           have ka2 : w9.cell? ⟨w.heap.size + 1, 0, none⟩ = some (.int .i64 m.base) := (hba.cell (by simp; omega)).trans (by exact Qc0)
           have za2 : w.heap.size + 1 < w9.heap.size := block_lt_of_cell ka2
           have ka3 : w9.cell? ⟨w.heap.size + 1, 1, none⟩ = some (.slice B n' d) := (hba.cell (by simp; omega)).trans (by exact Qc1)
           have za3 : w.heap.size + 1 < w9.heap.size := block_lt_of_cell ka3
           have ka4 : w9.cell? ⟨w4.heap.size, 0, none⟩ = some (.int .i64 l.base) := (hba.cell (by simp; omega)).trans (by exact Cc0)
           have za4 : w4.heap.size < w9.heap.size := block_lt_of_cell ka4
           have ka5 : w9.cell? ⟨w4.heap.size, 1, none⟩ = some (.slice A4 n4 c4) := (hba.cell (by simp; omega)).trans (by exact Cc1)
           have za5 : w4.heap.size < w9.heap.size := block_lt_of_cell ka5
           have ka6 : w9.cell? ⟨w5.heap.size, 0, none⟩ = some (.int .i64 m.base) := (hba.cell (by simp; omega)).trans (by exact Dc0)
           have za6 : w5.heap.size < w9.heap.size := block_lt_of_cell ka6
           have ka7 : w9.cell? ⟨w5.heap.size, 1, none⟩ = some (.slice A5 n5 c5) := (hba.cell (by simp; omega)).trans (by exact Dc1)
           have za7 : w5.heap.size < w9.heap.size := block_lt_of_cell ka7
           have HBA := Lib.hid hba
           have rda := owna.rd
           have rdx := X1.out.rd.below (by first | exact hba | exact below_undrew hba)
           obtain ⟨Aa, na, ca, rfl, -, -, -⟩ := owna
           clear hba)
        | (go_at_call 19
           refine (eq_lab _ _ m m _ (by exact rdx) (by exact rda)).mono ?_
           rintro e w10 ⟨rfl, hbb⟩
           have kb0 : w10.cell? ⟨w.heap.size, 0, none⟩ = some (.int .i64 l.base) := (hbb.cell (by simp; omega)).trans (by exact ka0)
           have kb1 : w10.cell? ⟨w.heap.size, 1, none⟩ = some (.slice A n c) := (hbb.cell (by simp; omega)).trans (by exact ka1)
           have kb2 : w10.cell? ⟨w.heap.size + 1, 0, none⟩ = some (.int .i64 m.base) := (hbb.cell (by simp; omega)).trans (by exact ka2)
           have kb3 : w10.cell? ⟨w.heap.size + 1, 1, none⟩ = some (.slice B n' d) := (hbb.cell (by simp; omega)).trans (by exact ka3)
           have kb4 : w10.cell? ⟨w4.heap.size, 0, none⟩ = some (.int .i64 l.base) := (hbb.cell (by simp; omega)).trans (by exact ka4)
           have kb5 : w10.cell? ⟨w4.heap.size, 1, none⟩ = some (.slice A4 n4 c4) := (hbb.cell (by simp; omega)).trans (by exact ka5)
           have kb6 : w10.cell? ⟨w5.heap.size, 0, none⟩ = some (.int .i64 m.base) := (hbb.cell (by simp; omega)).trans (by exact ka6)
           have kb7 : w10.cell? ⟨w5.heap.size, 1, none⟩ = some (.slice A5 n5 c5) := (hbb.cell (by simp; omega)).trans (by exact ka7)
           have HBB : Hid (Below w8.heap.size w8 w10) := (by first | exact HBA.out | exact below_undrew HBA.out : Below w8.heap.size w8 w9).trans (hbb.mono (by first | exact HBA.out.size | exact (below_undrew HBA.out).size))
           clear hbb))
      have hb := HBB.out
      clear HBB HBA rda rdx ka0 za0 kb0 ka1 za1 kb1 ka2 za2 kb2 ka3 za3 kb3 ka4 za4 kb4 ka5 za5 kb5 ka6 za6 kb6 ka7 za7 kb7
      have sz10 : w8.heap.size ≤ w10.heap.size := by have := hb.size; simpa using this
      have Pc0' : w10.cell? ⟨w.heap.size, 0, none⟩ = some (.int .i64 l.base) := (hb.cell (by simp; omega)).trans (by first | exact Pc0 | (simp [go_sem, Pz, Pc0]; done))
      have Pc1' : w10.cell? ⟨w.heap.size, 1, none⟩ = some (.slice A n c) := (hb.cell (by simp; omega)).trans (by first | exact Pc1 | (simp [go_sem, Pz, Pc1]; done))
      have Qc0' : w10.cell? ⟨w.heap.size + 1, 0, none⟩ = some (.int .i64 m.base) := (hb.cell (by simp; omega)).trans (by first | exact Qc0 | (simp [go_sem, Qz, Qc0]; done))
      have Qc1' : w10.cell? ⟨w.heap.size + 1, 1, none⟩ = some (.slice B n' d) := (hb.cell (by simp; omega)).trans (by first | exact Qc1 | (simp [go_sem, Qz, Qc1]; done))
      have Cc0' : w10.cell? ⟨w4.heap.size, 0, none⟩ = some (.int .i64 l.base) := (hb.cell (by simp; omega)).trans (by first | exact Cc0 | (simp [go_sem, Cz, Cc0]; done))
      have Cc1' : w10.cell? ⟨w4.heap.size, 1, none⟩ = some (.slice A4 n4 c4) := (hb.cell (by simp; omega)).trans (by first | exact Cc1 | (simp [go_sem, Cz, Cc1]; done))
      have Dc0' : w10.cell? ⟨w5.heap.size, 0, none⟩ = some (.int .i64 m.base) := (hb.cell (by simp; omega)).trans (by first | exact Dc0 | (simp [go_sem, Dz, Dc0]; done))
      have Dc1' : w10.cell? ⟨w5.heap.size, 1, none⟩ = some (.slice A5 n5 c5) := (hb.cell (by simp; omega)).trans (by first | exact Dc1 | (simp [go_sem, Dz, Dc1]; done))
      clear Pc0 Pc1 Qc0 Qc1 Cc0 Cc1 Dc0 Dc1 Pz Qz Cz Dz
      have Pc0 := Pc0'
      have Pc1 := Pc1'
      have Pz := block_lt_of_cell Pc0
      have Qc0 := Qc0'
      have Qc1 := Qc1'
      have Qz := block_lt_of_cell Qc0
      have Cc0 := Cc0'
      have Cc1 := Cc1'
      have Cz := block_lt_of_cell Cc0
      have Dc0 := Dc0'
      have Dc1 := Dc1'
      have Dz := block_lt_of_cell Dc0
      clear Pc0' Pc1' Qc0' Qc1' Cc0' Cc1' Dc0' Dc1'
      have X0' := Lib.hid (by first | exact X0.out.below hb | exact X0.out.over hb | exact X0.out.below (below_undrew hb))
      clear X0
      have X0 := X0'
      clear X0'
      have X1' := Lib.hid (by first | exact X1.out.below hb | exact X1.out.over hb | exact X1.out.below (below_undrew hb))
      clear X1
      have X1 := X1'
      clear X1'
      have bel' : Below w.heap.size w w10 := bel.trans ((by first | exact hb | exact over_alloc hb | exact below_undrew hb : Below w8.heap.size w8 w10).mono bel.size)
      clear bel hb
      have bel := bel'
      clear bel'
      go_wp2
      go_ret
      exact ⟨rfl, bel⟩
    · clear hn0 g0 hn1 g1
      go_enter Try.func4, Try.ntmps4
      have hge : ¬ (1048576 : Int) - n < 0 := by omega
      go_wp2_with fail
      refine (sz_lab_yes A n c l.base 1048576 _ (by omega) (by omega) (by omega)).mono ?_
      rintro e w1 ⟨rfl, hb⟩
      obtain ⟨⟨Pc0, Pc1⟩, ⟨Qc0, Qc1⟩, Qz, bel⟩ := box4 hb
      clear hb
      go_wp2_with fail
      refine (sz_lab_no B n' d m.base (1048576 - n) _ (by omega) (by omega) (by omega) (by omega)).mono ?_
      rintro e w3 ⟨rfl, hb⟩
      go_wp2
      go_ret
      exact ⟨rfl, below_more bel hb⟩
  · clear hn0 g0 hn1 g1
    go_enter Try.func4, Try.ntmps4
    go_wp2_with fail
    refine (sz_lab_no _ _ _ _ _ _ (by omega) (by omega) (by omega) (by omega)).mono ?_
    rintro e w1 ⟨rfl, hb⟩
    go_wp2
    go_ret
    exact ⟨rfl, (box4 hb).2.2.2⟩

set_option maxRecDepth 100000 in
theorem lifted (os : Os) (started : os.Started) (H : Type) (enc : TypeId × Value → H) :
    ReturnsInHanded {} Try.checked os 4 .any (Rows.fnExactAtMostSpec.pre6 enc Try.prog Try.f4 Rows.fnExactAtMostRow.domain false) (Rows.fnExactAtMostSpec.post enc Try.prog Try.f4 false true false false) := by
  refine returnsInHanded_of_change (C := Try.checked) own started (by kernel_rfl) Try.func4
    (ChangeSpec.witness6 (enc := enc) (C := Try.checked) false ⟨#[], #[.agg #[.int .i64 0, .slice none 0 0], .agg #[.int .i64 0, .slice none 0 0]], []⟩ 8 (by kernel_rfl) (by kernel_rfl) (by kernel_rfl) (by kernel_rfl)) ?_
  intro W base args ds gs before hval0 hW hcnd _
  have hval : ∀ (j : Nat) t v, Try.f4.params[j]? = some t → args[j]? = some v → Value.okWide Try.prog W .any base t v := hval0
  have hW' := hW
  obtain ⟨p, q, hA0, hV, rfl, hfz, hnd⟩ := hW
  have hA : DataW.TrodAll enc Try.prog W 0 (fun _ => true) true Try.f4.params.toList args.toList ds p := hA0
  rw [Try.params4] at hA hval
  obtain ⟨v0, vs0, d0, ds0, p0, q0, hargs, rfl, rfl, h0, r0⟩ := trodAll_cons hA
  obtain ⟨v1, vs1, d1, ds1, p1, q1, rfl, rfl, rfl, h1, r1⟩ := trodAll_cons r0
  obtain ⟨rfl, rfl, rfl⟩ := trodAll_nil r1
  obtain rfl : args = #[v0, v1] := by cases args; simp_all
  obtain ⟨rfl, rfl⟩ := trodVars_none hV
  have k0 := h0
  have lt0 : ∀ x ∈ p0, x.block < W.heap.size := by obtain ⟨m, hm⟩ := k0; exact DataW.trod_lt m _ _ _ hm
  have k1 := h1
  have lt1 : ∀ x ∈ p1, x.block < W.heap.size := by obtain ⟨m, hm⟩ := k1; exact DataW.trod_lt m _ _ _ hm
  obtain ⟨l0, hl0⟩ := open_lab (hval 0 34 v0 rfl rfl) h0
  obtain ⟨l1, hl1⟩ := open_lab (hval 1 34 v1 rfl rfl) h1
  clear hA0 hval0
  refine (walk v0 l0 hl0 v1 l1 hl1 (w := W)).mono fun e W' ⟨he, bel⟩ => ?_
  subst he
  exact ⟨_, rfl, _, _, _, [], _, [], hW', (trodAll_cons_mk (shut_bool Try.underlying4 _) trodAll_mk0), (trodAll_cons_mk (Below.trod laidOut (by kernel_rfl) (of_decide_eq_true (by kernel_rfl)) k0 bel lt0) (trodAll_cons_mk (Below.trod laidOut (by kernel_rfl) (of_decide_eq_true (by kernel_rfl)) k1 bel lt1) trodAll_mk0)), rfl, bel.frame _, fun h => by cases h⟩

theorem said : Rows.FnExactAtMostSaid :=
  OpenClaim.holds_of_wide 4 Try.f4 rfl rfl rfl rfl rfl rfl rfl ⟨rfl, rfl, rfl, rfl, rfl⟩ rfl rfl rfl rfl rfl (by kernel_rfl) Try.func4 (by kernel_rfl)
    (of_decide_eq_true (by kernel_rfl)) (by unfold Func.isWrapper; first | (rw [if_pos (by decide +kernel)]; kernel_rfl) | (rw [if_neg (by decide +kernel)]; exact ⟨rfl, rfl⟩))
    (fun os started H enc _ => lifted os started H enc)

theorem proved : Rows.FnExactAtMostSaid := said
#print axioms proved
end Go.Proofs.Ytoaglephpkmaeaa.fnExactAtMost
