/-
  FnExactJoin: whatever the input, the law returns true and its arguments read as they did; no condition.
-/
import Derived.Test.YtoaglephpkmaeaaBase
import Derived.Test.YtoaglephpkmaeaaRows
import Derived.Test.YtoaglephpkmaeaaOpen
import Derived.Test.YtoaglephpkmaeaaHas
import Derived.Test.YtoaglephpkmaeaaSpecJoin2
import Derived.Test.YtoaglephpkmaeaaImplOrd
namespace Go.Proofs.Ytoaglephpkmaeaa.fnExactJoin
set_option maxRecDepth 100000
open Go.ChangeShapes Go.WideShapes Go.ChangeAt Go.RowKit
open Go.ChangeMaps (open_string shut_string)
set_option linter.unusedVariables false

set_option maxHeartbeats 8000000 in
theorem walk {w : World} (v0 : Value) (l : Lab) (h0 : ArgLab w v0 l) (v1 : Value) (m : Lab) (h1 : ArgLab w v1 m) :
    Calls Try.prog 5 #[v0, v1] w fun e w' => e = .returned (.bool true) ∧ Below w.heap.size w w' := by
  have g0 := h0
  obtain ⟨A, n, c, rfl, hn0, hc0, hm0, -⟩ := h0
  have hm0' : n ≤ 9223372036854775807 := by unfold maxLen at hm0; omega
  have g1 := h1
  obtain ⟨B, n', d, rfl, hn1, hc1, hm1, -⟩ := h1
  have hm1' : n' ≤ 9223372036854775807 := by unfold maxLen at hm1; omega
  clear hc0 hm0 hc1 hm1
  by_cases hbig0 : n ≤ 1048576
  · have hr := g0.rd (by omega)
    have hln0 : l.parts.length ≤ 1048576 := by omega
    by_cases hbig1 : n + n' ≤ 1048576
    · have hq := g1.rd (by omega)
      have hln1 : m.parts.length ≤ 1048576 := by omega
      clear hn0 g0 hn1 g1
      go_enter Try.func5, Try.ntmps5
      go_wp2_with fail
      refine (sz_lab_yes A n c l.base 1048576 _ (by omega) (by omega) (by omega)).mono ?_
      rintro e w1 ⟨rfl, hb⟩
      obtain ⟨⟨Pc0, Pc1⟩, ⟨Qc0, Qc1⟩, Qz, bel⟩ := box4 hb
      have Pz : w.heap.size < w1.heap.size := by omega
      have sz1 := Qz
      have hge : ¬ (1048576 : Int) - n < 0 := by omega
      clear hb
      have hge1 : ¬ (1048576 : Int) - n - n' < 0 := by omega
      go_wp2_with fail
      refine (sz_lab_yes B n' d m.base (1048576 - n) _ (by omega) (by omega) (by omega)).mono ?_
      rintro e w2 ⟨rfl, hb⟩
      have sz2 : w1.heap.size ≤ w2.heap.size := by have := hb.size; simpa using this
      have Pc0' : w2.cell? ⟨w.heap.size, 0, none⟩ = some (.int .i64 l.base) := (hb.cell (by simp; omega)).trans (by first | exact Pc0 | (simp [go_sem, Pz, Pc0]; done))
      have Pc1' : w2.cell? ⟨w.heap.size, 1, none⟩ = some (.slice A n c) := (hb.cell (by simp; omega)).trans (by first | exact Pc1 | (simp [go_sem, Pz, Pc1]; done))
      have Qc0' : w2.cell? ⟨w.heap.size + 1, 0, none⟩ = some (.int .i64 m.base) := (hb.cell (by simp; omega)).trans (by first | exact Qc0 | (simp [go_sem, Qz, Qc0]; done))
      have Qc1' : w2.cell? ⟨w.heap.size + 1, 1, none⟩ = some (.slice B n' d) := (hb.cell (by simp; omega)).trans (by first | exact Qc1 | (simp [go_sem, Qz, Qc1]; done))
      clear Pc0 Pc1 Qc0 Qc1 Pz Qz
      have Pc0 := Pc0'
      have Pc1 := Pc1'
      have Pz := block_lt_of_cell Pc0
      have Qc0 := Qc0'
      have Qc1 := Qc1'
      have Qz := block_lt_of_cell Qc0
      clear Pc0' Pc1' Qc0' Qc1'
      have bel' : Below w.heap.size w w2 := bel.trans ((by first | exact hb | exact over_alloc hb | exact below_undrew hb : Below w1.heap.size w1 w2).mono bel.size)
      clear bel hb
      have bel := bel'
      clear bel'
      have HC := Lib.hid (Below.refl w2.heap.size w2)
      go_upto_region 8 with fail
      go_cut [6, 7] (fun sa sb wx => Boxed w2 (joinL l m).1 (joinL l m).2 sa sb wx)
      case first =>
        go_region_held3 (fun w' => w'.cell? ⟨w.heap.size, 0, none⟩ = some (.int .i64 l.base) ∧ w'.cell? ⟨w.heap.size, 1, none⟩ = some (.slice A n c) ∧ w'.cell? ⟨w.heap.size + 1, 0, none⟩ = some (.int .i64 m.base) ∧ w'.cell? ⟨w.heap.size + 1, 1, none⟩ = some (.slice B n' d))
          (first | exact ⟨ff0, ff1, ff2, ff3⟩ | go_keep)
          (first
          | (go_at_call_of 18 (Value.agg #[Value.int IntKind.i64 l.base, Value.slice A n c])
             refine (to_lab _ l _ (by first | exact hr.below (below_more bel HC.out) | exact (hr.below (below_more bel HC.out)).alloc _ | exact (hr.below (below_more bel HC.out)).drew | exact ((hr.below (below_more bel HC.out)).alloc _).drew | exact ((hr.below (below_more bel HC.out)).drew).alloc _)).mono ?_
             rintro e wn ⟨vv, rfl, own, hb⟩
             have HC0 := HC.out.size
             first
             | (have HY : Hid (Fresh wn _) := Lib.hid (by first | exact Fresh.new hb | exact Fresh.new (below_dr hb))
                have ne0 : w.heap.size ≠ _ := Nat.ne_of_lt (Nat.lt_of_lt_of_le Pz HC0)
                have nf0 := Ne.symm ne0
                have ne1 : w.heap.size + 1 ≠ _ := Nat.ne_of_lt (Nat.lt_of_lt_of_le Qz HC0)
                have nf1 := Ne.symm ne1
                have HYl := HC0)
             | (have HYb := block_lt_of_cell HY.out.c0
                have HY' := Lib.hid (HY.out.below (by first | exact hb | exact over_alloc hb | exact below_undrew hb | exact over_alloc (below_dr hb) | exact below_undrew (over_alloc hb)))
                clear HY
                have HY := HY'
                clear HY')
             | skip
             try clear hy0 hy1 hq0 hq1
             try (have hy0 := HY.out.c0
                  have hy1 := HY.out.c1
                  have hq0 := HY.out.f0
                  have hq1 := HY.out.f1)
             have HC' : Hid (Below w2.heap.size w2 wn) := Lib.hid (by first | exact below_more HC.out hb | exact below_more HC.out (over_alloc hb) | exact below_more HC.out (below_undrew hb) | exact below_more HC.out (over_alloc (below_dr hb)) | exact below_more HC.out (below_undrew (over_alloc hb)))
             clear HC
             have HC := HC'
             clear HC'
             try clear ff0 ff1 ff2 ff3
             have ff0 : wn.cell? ⟨w.heap.size, 0, none⟩ = some (.int .i64 l.base) := (HC.out.cell (by exact Pz)).trans (by exact Pc0)
             have ff1 : wn.cell? ⟨w.heap.size, 1, none⟩ = some (.slice A n c) := (HC.out.cell (by exact Pz)).trans (by exact Pc1)
             have ff2 : wn.cell? ⟨w.heap.size + 1, 0, none⟩ = some (.int .i64 m.base) := (HC.out.cell (by exact Qz)).trans (by exact Qc0)
             have ff3 : wn.cell? ⟨w.heap.size + 1, 1, none⟩ = some (.slice B n' d) := (HC.out.cell (by exact Qz)).trans (by exact Qc1)
             try (have R0' := Lib.hid (R0.out.below (by first | exact hb | exact over_alloc hb | exact below_undrew hb | exact over_alloc (below_dr hb) | exact below_undrew (over_alloc hb)))
                  clear R0
                  have R0 := R0'
                  clear R0')
             try (have R1' := Lib.hid (R1.out.below (by first | exact hb | exact over_alloc hb | exact below_undrew hb | exact over_alloc (below_dr hb) | exact below_undrew (over_alloc hb)))
                  clear R1
                  have R1 := R1'
                  clear R1')
             have R0 := Lib.hid own.rd
             obtain ⟨A30, n30, c30, rfl, -, -, -⟩ := own
             clear hb)
          | (go_at_call_of 18 (Value.agg #[Value.int IntKind.i64 m.base, Value.slice B n' d])
             refine (to_lab _ m _ (by first | exact hq.below (below_more bel HC.out) | exact (hq.below (below_more bel HC.out)).alloc _ | exact (hq.below (below_more bel HC.out)).drew | exact ((hq.below (below_more bel HC.out)).alloc _).drew | exact ((hq.below (below_more bel HC.out)).drew).alloc _)).mono ?_
             rintro e wn ⟨vv, rfl, own, hb⟩
             have HC0 := HC.out.size
             first
             | (have HY : Hid (Fresh wn _) := Lib.hid (by first | exact Fresh.new hb | exact Fresh.new (below_dr hb))
                have ne0 : w.heap.size ≠ _ := Nat.ne_of_lt (Nat.lt_of_lt_of_le Pz HC0)
                have nf0 := Ne.symm ne0
                have ne1 : w.heap.size + 1 ≠ _ := Nat.ne_of_lt (Nat.lt_of_lt_of_le Qz HC0)
                have nf1 := Ne.symm ne1
                have HYl := HC0)
             | (have HYb := block_lt_of_cell HY.out.c0
                have HY' := Lib.hid (HY.out.below (by first | exact hb | exact over_alloc hb | exact below_undrew hb | exact over_alloc (below_dr hb) | exact below_undrew (over_alloc hb)))
                clear HY
                have HY := HY'
                clear HY')
             | skip
             try clear hy0 hy1 hq0 hq1
             try (have hy0 := HY.out.c0
                  have hy1 := HY.out.c1
                  have hq0 := HY.out.f0
                  have hq1 := HY.out.f1)
             have HC' : Hid (Below w2.heap.size w2 wn) := Lib.hid (by first | exact below_more HC.out hb | exact below_more HC.out (over_alloc hb) | exact below_more HC.out (below_undrew hb) | exact below_more HC.out (over_alloc (below_dr hb)) | exact below_more HC.out (below_undrew (over_alloc hb)))
             clear HC
             have HC := HC'
             clear HC'
             try clear ff0 ff1 ff2 ff3
             have ff0 : wn.cell? ⟨w.heap.size, 0, none⟩ = some (.int .i64 l.base) := (HC.out.cell (by exact Pz)).trans (by exact Pc0)
             have ff1 : wn.cell? ⟨w.heap.size, 1, none⟩ = some (.slice A n c) := (HC.out.cell (by exact Pz)).trans (by exact Pc1)
             have ff2 : wn.cell? ⟨w.heap.size + 1, 0, none⟩ = some (.int .i64 m.base) := (HC.out.cell (by exact Qz)).trans (by exact Qc0)
             have ff3 : wn.cell? ⟨w.heap.size + 1, 1, none⟩ = some (.slice B n' d) := (HC.out.cell (by exact Qz)).trans (by exact Qc1)
             try (have R0' := Lib.hid (R0.out.below (by first | exact hb | exact over_alloc hb | exact below_undrew hb | exact over_alloc (below_dr hb) | exact below_undrew (over_alloc hb)))
                  clear R0
                  have R0 := R0'
                  clear R0')
             try (have R1' := Lib.hid (R1.out.below (by first | exact hb | exact over_alloc hb | exact below_undrew hb | exact over_alloc (below_dr hb) | exact below_undrew (over_alloc hb)))
                  clear R1
                  have R1 := R1'
                  clear R1')
             have R1 := Lib.hid own.rd
             obtain ⟨A31, n31, c31, rfl, -, -, -⟩ := own
             clear hb)
          | (go_at_call 11
             refine (spec_join _ _ l m _ R0.out R1.out).mono ?_
             rintro e wn ⟨vv, rfl, own, hb⟩
             have HC0 := HC.out.size
             first
             | (have HY : Hid (Fresh wn _) := Lib.hid (by first | exact Fresh.new hb | exact Fresh.new (below_dr hb))
                have ne0 : w.heap.size ≠ _ := Nat.ne_of_lt (Nat.lt_of_lt_of_le Pz HC0)
                have nf0 := Ne.symm ne0
                have ne1 : w.heap.size + 1 ≠ _ := Nat.ne_of_lt (Nat.lt_of_lt_of_le Qz HC0)
                have nf1 := Ne.symm ne1
                have HYl := HC0)
             | (have HYb := block_lt_of_cell HY.out.c0
                have HY' := Lib.hid (HY.out.below (by first | exact hb | exact over_alloc hb | exact below_undrew hb | exact over_alloc (below_dr hb) | exact below_undrew (over_alloc hb)))
                clear HY
                have HY := HY'
                clear HY')
             | skip
             try clear hy0 hy1 hq0 hq1
             try (have hy0 := HY.out.c0
                  have hy1 := HY.out.c1
                  have hq0 := HY.out.f0
                  have hq1 := HY.out.f1)
             have HC' : Hid (Below w2.heap.size w2 wn) := Lib.hid (by first | exact below_more HC.out hb | exact below_more HC.out (over_alloc hb) | exact below_more HC.out (below_undrew hb) | exact below_more HC.out (over_alloc (below_dr hb)) | exact below_more HC.out (below_undrew (over_alloc hb)))
             clear HC
             have HC := HC'
             clear HC'
             try clear ff0 ff1 ff2 ff3
             have ff0 : wn.cell? ⟨w.heap.size, 0, none⟩ = some (.int .i64 l.base) := (HC.out.cell (by exact Pz)).trans (by exact Pc0)
             have ff1 : wn.cell? ⟨w.heap.size, 1, none⟩ = some (.slice A n c) := (HC.out.cell (by exact Pz)).trans (by exact Pc1)
             have ff2 : wn.cell? ⟨w.heap.size + 1, 0, none⟩ = some (.int .i64 m.base) := (HC.out.cell (by exact Qz)).trans (by exact Qc0)
             have ff3 : wn.cell? ⟨w.heap.size + 1, 1, none⟩ = some (.slice B n' d) := (HC.out.cell (by exact Qz)).trans (by exact Qc1)
             try (have R0' := Lib.hid (R0.out.below (by first | exact hb | exact over_alloc hb | exact below_undrew hb | exact over_alloc (below_dr hb) | exact below_undrew (over_alloc hb)))
                  clear R0
                  have R0 := R0'
                  clear R0')
             try (have R1' := Lib.hid (R1.out.below (by first | exact hb | exact over_alloc hb | exact below_undrew hb | exact over_alloc (below_dr hb) | exact below_undrew (over_alloc hb)))
                  clear R1
                  have R1 := R1'
                  clear R1')
             have HOs := HC0
             have OW := Lib.hid own
             obtain ⟨A3, n3, c3, rfl, -, -, -⟩ := own
             clear hb)
          | (go_at_call 11
             refine (spec_join _ _ l m _ (R0.out.alloc _) (R1.out.alloc _)).mono ?_
             rintro e wn ⟨vv, rfl, own, hb⟩
             have HC0 := HC.out.size
             first
             | (have HY : Hid (Fresh wn _) := Lib.hid (by first | exact Fresh.new hb | exact Fresh.new (below_dr hb))
                have ne0 : w.heap.size ≠ _ := Nat.ne_of_lt (Nat.lt_of_lt_of_le Pz HC0)
                have nf0 := Ne.symm ne0
                have ne1 : w.heap.size + 1 ≠ _ := Nat.ne_of_lt (Nat.lt_of_lt_of_le Qz HC0)
                have nf1 := Ne.symm ne1
                have HYl := HC0)
             | (have HYb := block_lt_of_cell HY.out.c0
                have HY' := Lib.hid (HY.out.below (by first | exact hb | exact over_alloc hb | exact below_undrew hb | exact over_alloc (below_dr hb) | exact below_undrew (over_alloc hb)))
                clear HY
                have HY := HY'
                clear HY')
             | skip
             try clear hy0 hy1 hq0 hq1
             try (have hy0 := HY.out.c0
                  have hy1 := HY.out.c1
                  have hq0 := HY.out.f0
                  have hq1 := HY.out.f1)
             have HC' : Hid (Below w2.heap.size w2 wn) := Lib.hid (by first | exact below_more HC.out hb | exact below_more HC.out (over_alloc hb) | exact below_more HC.out (below_undrew hb) | exact below_more HC.out (over_alloc (below_dr hb)) | exact below_more HC.out (below_undrew (over_alloc hb)))
             clear HC
             have HC := HC'
             clear HC'
             try clear ff0 ff1 ff2 ff3
             have ff0 : wn.cell? ⟨w.heap.size, 0, none⟩ = some (.int .i64 l.base) := (HC.out.cell (by exact Pz)).trans (by exact Pc0)
             have ff1 : wn.cell? ⟨w.heap.size, 1, none⟩ = some (.slice A n c) := (HC.out.cell (by exact Pz)).trans (by exact Pc1)
             have ff2 : wn.cell? ⟨w.heap.size + 1, 0, none⟩ = some (.int .i64 m.base) := (HC.out.cell (by exact Qz)).trans (by exact Qc0)
             have ff3 : wn.cell? ⟨w.heap.size + 1, 1, none⟩ = some (.slice B n' d) := (HC.out.cell (by exact Qz)).trans (by exact Qc1)
             try (have R0' := Lib.hid (R0.out.below (by first | exact hb | exact over_alloc hb | exact below_undrew hb | exact over_alloc (below_dr hb) | exact below_undrew (over_alloc hb)))
                  clear R0
                  have R0 := R0'
                  clear R0')
             try (have R1' := Lib.hid (R1.out.below (by first | exact hb | exact over_alloc hb | exact below_undrew hb | exact over_alloc (below_dr hb) | exact below_undrew (over_alloc hb)))
                  clear R1
                  have R1 := R1'
                  clear R1')
             have HOs := HC0
             have OW := Lib.hid own
             obtain ⟨A3, n3, c3, rfl, -, -, -⟩ := own
             clear hb))
        all_goals
          go_wp2_with fail
          go_meet
          first
          | exact Boxed.laid HC.out OW.out HOs
          | exact Boxed.stored HC.out HYl HY.out OW.out (by first | exact HYb | (simp; done) | omega)
      obtain ⟨g3, A3, n3, c3, rfl, rfl, hb, hgo, u0, u1, own⟩ := hcut
      obtain ⟨w3, hw3⟩ : ∃ w3, w3 = wc := ⟨_, rfl⟩
      rw [← hw3] at hb u0 u1 own ⊢
      clear hw3 HC
      have W0r : Hid (∀ k, (labRow (.agg #[.int .i64 (joinL l m).1.base, .slice A3 n3 c3])).ownBlock = some k → w2.heap.size ≤ k ∧ k < w3.heap.size) := Lib.hid (fun k hk => own.row k hk)
      have sz3 : w2.heap.size ≤ w3.heap.size := by have := hb.size; simpa using this
      have Pc0' : w3.cell? ⟨w.heap.size, 0, none⟩ = some (.int .i64 l.base) := (hb.cell (by simp; omega)).trans (by first | exact Pc0 | (simp [go_sem, Pz, Pc0]; done))
      have Pc1' : w3.cell? ⟨w.heap.size, 1, none⟩ = some (.slice A n c) := (hb.cell (by simp; omega)).trans (by first | exact Pc1 | (simp [go_sem, Pz, Pc1]; done))
      have Qc0' : w3.cell? ⟨w.heap.size + 1, 0, none⟩ = some (.int .i64 m.base) := (hb.cell (by simp; omega)).trans (by first | exact Qc0 | (simp [go_sem, Qz, Qc0]; done))
      have Qc1' : w3.cell? ⟨w.heap.size + 1, 1, none⟩ = some (.slice B n' d) := (hb.cell (by simp; omega)).trans (by first | exact Qc1 | (simp [go_sem, Qz, Qc1]; done))
      clear Pc0 Pc1 Qc0 Qc1 Pz Qz
      have Pc0 := Pc0'
      have Pc1 := Pc1'
      have Pz := block_lt_of_cell Pc0
      have Qc0 := Qc0'
      have Qc1 := Qc1'
      have Qz := block_lt_of_cell Qc0
      clear Pc0' Pc1' Qc0' Qc1'
      have bel' : Below w.heap.size w w3 := bel.trans ((by first | exact hb | exact over_alloc hb | exact below_undrew hb : Below w2.heap.size w2 w3).mono bel.size)
      clear bel hb
      have bel := bel'
      clear bel'
      have W0 := Lib.hid own
      clear own hgo
      have BWc0 := u0
      have BWc1 := u1
      have BWz := block_lt_of_cell u0
      have hgu3 := block_lt_of_cell u0
      clear u0 u1
      go_wp2_with fail
      refine (to_lab _ l _ (by first | exact hr.below bel | exact hr.below (bel.alloc bel.size _))).mono ?_
      rintro e w4 ⟨v4, rfl, own, hb⟩
      have X0r : Hid (∀ k, (labRow v4).ownBlock = some k → w3.heap.size ≤ k ∧ k < w4.heap.size) := fun k hk => by have := own.row k hk; simpa using this
      have sz4 : w3.heap.size ≤ w4.heap.size := by have := hb.size; simpa using this
      have Pc0' : w4.cell? ⟨w.heap.size, 0, none⟩ = some (.int .i64 l.base) := (hb.cell (by simp; omega)).trans (by first | exact Pc0 | (simp [go_sem, Pz, Pc0]; done))
      have Pc1' : w4.cell? ⟨w.heap.size, 1, none⟩ = some (.slice A n c) := (hb.cell (by simp; omega)).trans (by first | exact Pc1 | (simp [go_sem, Pz, Pc1]; done))
      have Qc0' : w4.cell? ⟨w.heap.size + 1, 0, none⟩ = some (.int .i64 m.base) := (hb.cell (by simp; omega)).trans (by first | exact Qc0 | (simp [go_sem, Qz, Qc0]; done))
      have Qc1' : w4.cell? ⟨w.heap.size + 1, 1, none⟩ = some (.slice B n' d) := (hb.cell (by simp; omega)).trans (by first | exact Qc1 | (simp [go_sem, Qz, Qc1]; done))
      have BWc0' : w4.cell? ⟨g3, 0, none⟩ = some (.int .i64 (joinL l m).1.base) := (hb.cell (by simp; omega)).trans (by first | exact BWc0 | (simp [go_sem, BWz, BWc0]; done))
      have BWc1' : w4.cell? ⟨g3, 1, none⟩ = some (.slice A3 n3 c3) := (hb.cell (by simp; omega)).trans (by first | exact BWc1 | (simp [go_sem, BWz, BWc1]; done))
      clear Pc0 Pc1 Qc0 Qc1 BWc0 BWc1 Pz Qz BWz
      have Pc0 := Pc0'
      have Pc1 := Pc1'
      have Pz := block_lt_of_cell Pc0
      have Qc0 := Qc0'
      have Qc1 := Qc1'
      have Qz := block_lt_of_cell Qc0
      have BWc0 := BWc0'
      have BWc1 := BWc1'
      have BWz := block_lt_of_cell BWc0
      clear Pc0' Pc1' Qc0' Qc1' BWc0' BWc1'
      have W0' := Lib.hid (by first | exact W0.out.below hb | exact W0.out.over hb | exact W0.out.below (below_undrew hb))
      clear W0
      have W0 := W0'
      clear W0'
      have bel' : Below w.heap.size w w4 := bel.trans ((by first | exact hb | exact over_alloc hb | exact below_undrew hb : Below w3.heap.size w3 w4).mono bel.size)
      clear bel hb
      have bel := bel'
      clear bel'
      have X0 := Lib.hid own
      obtain ⟨A4, n4, c4, rfl, -, -, -⟩ := own
      go_wp2_with fail
      refine (to_lab _ m _ (by first | exact hq.below bel | exact hq.below (bel.alloc bel.size _))).mono ?_
      rintro e w5 ⟨v5, rfl, own, hb⟩
      have X1r : Hid (∀ k, (labRow v5).ownBlock = some k → w4.heap.size + 1 ≤ k ∧ k < w5.heap.size) := fun k hk => by have := own.row k hk; simpa using this
      have sz5 : w4.heap.size + 1 ≤ w5.heap.size := by have := hb.size; simpa using this
      have Pc0' : w5.cell? ⟨w.heap.size, 0, none⟩ = some (.int .i64 l.base) := (hb.cell (by simp; omega)).trans (by first | exact Pc0 | (simp [go_sem, Pz, Pc0]; done))
      have Pc1' : w5.cell? ⟨w.heap.size, 1, none⟩ = some (.slice A n c) := (hb.cell (by simp; omega)).trans (by first | exact Pc1 | (simp [go_sem, Pz, Pc1]; done))
      have Qc0' : w5.cell? ⟨w.heap.size + 1, 0, none⟩ = some (.int .i64 m.base) := (hb.cell (by simp; omega)).trans (by first | exact Qc0 | (simp [go_sem, Qz, Qc0]; done))
      have Qc1' : w5.cell? ⟨w.heap.size + 1, 1, none⟩ = some (.slice B n' d) := (hb.cell (by simp; omega)).trans (by first | exact Qc1 | (simp [go_sem, Qz, Qc1]; done))
      have BWc0' : w5.cell? ⟨g3, 0, none⟩ = some (.int .i64 (joinL l m).1.base) := (hb.cell (by simp; omega)).trans (by first | exact BWc0 | (simp [go_sem, BWz, BWc0]; done))
      have BWc1' : w5.cell? ⟨g3, 1, none⟩ = some (.slice A3 n3 c3) := (hb.cell (by simp; omega)).trans (by first | exact BWc1 | (simp [go_sem, BWz, BWc1]; done))
      clear Pc0 Pc1 Qc0 Qc1 BWc0 BWc1 Pz Qz BWz
      have Pc0 := Pc0'
      have Pc1 := Pc1'
      have Pz := block_lt_of_cell Pc0
      have Qc0 := Qc0'
      have Qc1 := Qc1'
      have Qz := block_lt_of_cell Qc0
      have BWc0 := BWc0'
      have BWc1 := BWc1'
      have BWz := block_lt_of_cell BWc0
      clear Pc0' Pc1' Qc0' Qc1' BWc0' BWc1'
      have Cc0 : w5.cell? ⟨w4.heap.size, 0, none⟩ = some (.int .i64 l.base) := (hb.cell (by simp)).trans (World.cell?_alloc_new _ _ _ 0)
      have Cc1 : w5.cell? ⟨w4.heap.size, 1, none⟩ = some (.slice A4 n4 c4) := (hb.cell (by simp)).trans (World.cell?_alloc_new _ _ _ 1)
      have Cz := block_lt_of_cell Cc0
      have W0' := Lib.hid (by first | exact W0.out.below hb | exact W0.out.over hb | exact W0.out.below (below_undrew hb))
      clear W0
      have W0 := W0'
      clear W0'
      have X0' := Lib.hid (by first | exact X0.out.below hb | exact X0.out.over hb | exact X0.out.below (below_undrew hb))
      clear X0
      have X0 := X0'
      clear X0'
      have bel' : Below w.heap.size w w5 := bel.trans ((by first | exact hb | exact over_alloc hb | exact below_undrew hb : Below w4.heap.size w4 w5).mono bel.size)
      clear bel hb
      have bel := bel'
      clear bel'
      have X1 := Lib.hid own
      obtain ⟨A5, n5, c5, rfl, -, -, -⟩ := own
      go_wp2_with fail
      refine (impl_join _ _ l m _ (by first | exact X0.out.rd | exact X0.out.rd.alloc _) (by first | exact X1.out.rd | exact X1.out.rd.alloc _)).mono ?_
      rintro e w6 ⟨v6, rfl, own, hb⟩
      have G0r : Hid (∀ k, (labRow v6).ownBlock = some k → w5.heap.size + 1 ≤ k ∧ k < w6.heap.size) := fun k hk => by have := own.row k hk; simpa using this
      have sz6 : w5.heap.size + 1 ≤ w6.heap.size := by have := hb.size; simpa using this
      have Pc0' : w6.cell? ⟨w.heap.size, 0, none⟩ = some (.int .i64 l.base) := (hb.cell (by simp; omega)).trans (by first | exact Pc0 | (simp [go_sem, Pz, Pc0]; done))
      have Pc1' : w6.cell? ⟨w.heap.size, 1, none⟩ = some (.slice A n c) := (hb.cell (by simp; omega)).trans (by first | exact Pc1 | (simp [go_sem, Pz, Pc1]; done))
      have Qc0' : w6.cell? ⟨w.heap.size + 1, 0, none⟩ = some (.int .i64 m.base) := (hb.cell (by simp; omega)).trans (by first | exact Qc0 | (simp [go_sem, Qz, Qc0]; done))
      have Qc1' : w6.cell? ⟨w.heap.size + 1, 1, none⟩ = some (.slice B n' d) := (hb.cell (by simp; omega)).trans (by first | exact Qc1 | (simp [go_sem, Qz, Qc1]; done))
      have BWc0' : w6.cell? ⟨g3, 0, none⟩ = some (.int .i64 (joinL l m).1.base) := (hb.cell (by simp; omega)).trans (by first | exact BWc0 | (simp [go_sem, BWz, BWc0]; done))
      have BWc1' : w6.cell? ⟨g3, 1, none⟩ = some (.slice A3 n3 c3) := (hb.cell (by simp; omega)).trans (by first | exact BWc1 | (simp [go_sem, BWz, BWc1]; done))
      have Cc0' : w6.cell? ⟨w4.heap.size, 0, none⟩ = some (.int .i64 l.base) := (hb.cell (by simp; omega)).trans (by first | exact Cc0 | (simp [go_sem, Cz, Cc0]; done))
      have Cc1' : w6.cell? ⟨w4.heap.size, 1, none⟩ = some (.slice A4 n4 c4) := (hb.cell (by simp; omega)).trans (by first | exact Cc1 | (simp [go_sem, Cz, Cc1]; done))
      clear Pc0 Pc1 Qc0 Qc1 BWc0 BWc1 Cc0 Cc1 Pz Qz BWz Cz
      have Pc0 := Pc0'
      have Pc1 := Pc1'
      have Pz := block_lt_of_cell Pc0
      have Qc0 := Qc0'
      have Qc1 := Qc1'
      have Qz := block_lt_of_cell Qc0
      have BWc0 := BWc0'
      have BWc1 := BWc1'
      have BWz := block_lt_of_cell BWc0
      have Cc0 := Cc0'
      have Cc1 := Cc1'
      have Cz := block_lt_of_cell Cc0
      clear Pc0' Pc1' Qc0' Qc1' BWc0' BWc1' Cc0' Cc1'
      have Dc0 : w6.cell? ⟨w5.heap.size, 0, none⟩ = some (.int .i64 m.base) := (hb.cell (by simp)).trans (World.cell?_alloc_new _ _ _ 0)
      have Dc1 : w6.cell? ⟨w5.heap.size, 1, none⟩ = some (.slice A5 n5 c5) := (hb.cell (by simp)).trans (World.cell?_alloc_new _ _ _ 1)
      have Dz := block_lt_of_cell Dc0
      have W0' := Lib.hid (by first | exact W0.out.below hb | exact W0.out.over hb | exact W0.out.below (below_undrew hb))
      clear W0
      have W0 := W0'
      clear W0'
      have X0' := Lib.hid (by first | exact X0.out.below hb | exact X0.out.over hb | exact X0.out.below (below_undrew hb))
      clear X0
      have X0 := X0'
      clear X0'
      have X1' := Lib.hid (by first | exact X1.out.below hb | exact X1.out.over hb | exact X1.out.below (below_undrew hb))
      clear X1
      have X1 := X1'
      clear X1'
      have bel' : Below w.heap.size w w6 := bel.trans ((by first | exact hb | exact over_alloc hb | exact below_undrew hb : Below w5.heap.size w5 w6).mono bel.size)
      clear bel hb
      have bel := bel'
      clear bel'
      have G0 := Lib.hid own
      obtain ⟨A6, n6, c6, rfl, -, -, -⟩ := own
      have heq := labEq_rfl (joinL l m).1
      go_wp2_with fail
      refine (eq_lab _ _ (joinL l m).1 (joinL l m).1 _ (by first | exact G0.out.rd | exact G0.out.rd.alloc _) (by first | exact W0.out.rd | exact W0.out.rd.alloc _)).mono ?_
      rintro e w7 ⟨rfl, hb⟩
      have sz7 : w6.heap.size + 1 ≤ w7.heap.size := by have := hb.size; simpa using this
      have Pc0' : w7.cell? ⟨w.heap.size, 0, none⟩ = some (.int .i64 l.base) := (hb.cell (by simp; omega)).trans (by first | exact Pc0 | (simp [go_sem, Pz, Pc0]; done))
      have Pc1' : w7.cell? ⟨w.heap.size, 1, none⟩ = some (.slice A n c) := (hb.cell (by simp; omega)).trans (by first | exact Pc1 | (simp [go_sem, Pz, Pc1]; done))
      have Qc0' : w7.cell? ⟨w.heap.size + 1, 0, none⟩ = some (.int .i64 m.base) := (hb.cell (by simp; omega)).trans (by first | exact Qc0 | (simp [go_sem, Qz, Qc0]; done))
      have Qc1' : w7.cell? ⟨w.heap.size + 1, 1, none⟩ = some (.slice B n' d) := (hb.cell (by simp; omega)).trans (by first | exact Qc1 | (simp [go_sem, Qz, Qc1]; done))
      have BWc0' : w7.cell? ⟨g3, 0, none⟩ = some (.int .i64 (joinL l m).1.base) := (hb.cell (by simp; omega)).trans (by first | exact BWc0 | (simp [go_sem, BWz, BWc0]; done))
      have BWc1' : w7.cell? ⟨g3, 1, none⟩ = some (.slice A3 n3 c3) := (hb.cell (by simp; omega)).trans (by first | exact BWc1 | (simp [go_sem, BWz, BWc1]; done))
      have Cc0' : w7.cell? ⟨w4.heap.size, 0, none⟩ = some (.int .i64 l.base) := (hb.cell (by simp; omega)).trans (by first | exact Cc0 | (simp [go_sem, Cz, Cc0]; done))
      have Cc1' : w7.cell? ⟨w4.heap.size, 1, none⟩ = some (.slice A4 n4 c4) := (hb.cell (by simp; omega)).trans (by first | exact Cc1 | (simp [go_sem, Cz, Cc1]; done))
      have Dc0' : w7.cell? ⟨w5.heap.size, 0, none⟩ = some (.int .i64 m.base) := (hb.cell (by simp; omega)).trans (by first | exact Dc0 | (simp [go_sem, Dz, Dc0]; done))
      have Dc1' : w7.cell? ⟨w5.heap.size, 1, none⟩ = some (.slice A5 n5 c5) := (hb.cell (by simp; omega)).trans (by first | exact Dc1 | (simp [go_sem, Dz, Dc1]; done))
      clear Pc0 Pc1 Qc0 Qc1 BWc0 BWc1 Cc0 Cc1 Dc0 Dc1 Pz Qz BWz Cz Dz
      have Pc0 := Pc0'
      have Pc1 := Pc1'
      have Pz := block_lt_of_cell Pc0
      have Qc0 := Qc0'
      have Qc1 := Qc1'
      have Qz := block_lt_of_cell Qc0
      have BWc0 := BWc0'
      have BWc1 := BWc1'
      have BWz := block_lt_of_cell BWc0
      have Cc0 := Cc0'
      have Cc1 := Cc1'
      have Cz := block_lt_of_cell Cc0
      have Dc0 := Dc0'
      have Dc1 := Dc1'
      have Dz := block_lt_of_cell Dc0
      clear Pc0' Pc1' Qc0' Qc1' BWc0' BWc1' Cc0' Cc1' Dc0' Dc1'
      have BGc0 : w7.cell? ⟨w6.heap.size, 0, none⟩ = some (.int .i64 (joinL l m).1.base) := (hb.cell (by simp)).trans (World.cell?_alloc_new _ _ _ 0)
      have BGc1 : w7.cell? ⟨w6.heap.size, 1, none⟩ = some (.slice A6 n6 c6) := (hb.cell (by simp)).trans (World.cell?_alloc_new _ _ _ 1)
      have BGz := block_lt_of_cell BGc0
      have W0' := Lib.hid (by first | exact W0.out.below hb | exact W0.out.over hb | exact W0.out.below (below_undrew hb))
      clear W0
      have W0 := W0'
      clear W0'
      have X0' := Lib.hid (by first | exact X0.out.below hb | exact X0.out.over hb | exact X0.out.below (below_undrew hb))
      clear X0
      have X0 := X0'
      clear X0'
      have X1' := Lib.hid (by first | exact X1.out.below hb | exact X1.out.over hb | exact X1.out.below (below_undrew hb))
      clear X1
      have X1 := X1'
      clear X1'
      have G0' := Lib.hid (by first | exact G0.out.below hb | exact G0.out.over hb | exact G0.out.below (below_undrew hb))
      clear G0
      have G0 := G0'
      clear G0'
      have bel' : Below w.heap.size w w7 := bel.trans ((by first | exact hb | exact over_alloc hb | exact below_undrew hb : Below w6.heap.size w6 w7).mono bel.size)
      clear bel hb
      have bel := bel'
      clear bel'
      have heql := labEq_rfl l
      go_wp2
      go_region_held3 (fun w' => w'.cell? ⟨w.heap.size, 0, none⟩ = some (.int .i64 l.base) ∧ w'.cell? ⟨w.heap.size, 1, none⟩ = some (.slice A n c) ∧ w'.cell? ⟨w.heap.size + 1, 0, none⟩ = some (.int .i64 m.base) ∧ w'.cell? ⟨w.heap.size + 1, 1, none⟩ = some (.slice B n' d) ∧ w'.cell? ⟨g3, 0, none⟩ = some (.int .i64 (joinL l m).1.base) ∧ w'.cell? ⟨g3, 1, none⟩ = some (.slice A3 n3 c3) ∧ w'.cell? ⟨w4.heap.size, 0, none⟩ = some (.int .i64 l.base) ∧ w'.cell? ⟨w4.heap.size, 1, none⟩ = some (.slice A4 n4 c4) ∧ w'.cell? ⟨w5.heap.size, 0, none⟩ = some (.int .i64 m.base) ∧ w'.cell? ⟨w5.heap.size, 1, none⟩ = some (.slice A5 n5 c5) ∧ w'.cell? ⟨w6.heap.size, 0, none⟩ = some (.int .i64 (joinL l m).1.base) ∧ w'.cell? ⟨w6.heap.size, 1, none⟩ = some (.slice A6 n6 c6))
        (first | exact ⟨kb0, kb1, kb2, kb3, kb4, kb5, kb6, kb7, kb8, kb9, kb10, kb11⟩ | exact ⟨ka0, ka1, ka2, ka3, ka4, ka5, ka6, ka7, ka8, ka9, ka10, ka11⟩ | go_keep)
        (first
        | (go_at_call 18
           refine (to_lab _ l _ (hr.below (by first | exact bel | exact bel.drew))).mono ?_
           rintro e w8 ⟨va, rfl, owna, hba⟩
           have ka0 : w8.cell? ⟨w.heap.size, 0, none⟩ = some (.int .i64 l.base) := (hba.cell (by simp; omega)).trans (by exact Pc0)
           have za0 : w.heap.size < w8.heap.size := block_lt_of_cell ka0
           have ka1 : w8.cell? ⟨w.heap.size, 1, none⟩ = some (.slice A n c) := (hba.cell (by simp; omega)).trans (by exact Pc1)
           have za1 : w.heap.size < w8.heap.size := block_lt_of_cell ka1
           have ka2 : w8.cell? ⟨w.heap.size + 1, 0, none⟩ = some (.int .i64 m.base) := (hba.cell (by simp; omega)).trans (by exact Qc0)
           have za2 : w.heap.size + 1 < w8.heap.size := block_lt_of_cell ka2
           have ka3 : w8.cell? ⟨w.heap.size + 1, 1, none⟩ = some (.slice B n' d) := (hba.cell (by simp; omega)).trans (by exact Qc1)
           have za3 : w.heap.size + 1 < w8.heap.size := block_lt_of_cell ka3
           have ka4 : w8.cell? ⟨g3, 0, none⟩ = some (.int .i64 (joinL l m).1.base) := (hba.cell (by simp; omega)).trans (by exact BWc0)
           have za4 : g3 < w8.heap.size := block_lt_of_cell ka4
           have ka5 : w8.cell? ⟨g3, 1, none⟩ = some (.slice A3 n3 c3) := (hba.cell (by simp; omega)).trans (by exact BWc1)
           have za5 : g3 < w8.heap.size := block_lt_of_cell ka5
           have ka6 : w8.cell? ⟨w4.heap.size, 0, none⟩ = some (.int .i64 l.base) := (hba.cell (by simp; omega)).trans (by exact Cc0)
           have za6 : w4.heap.size < w8.heap.size := block_lt_of_cell ka6
           have ka7 : w8.cell? ⟨w4.heap.size, 1, none⟩ = some (.slice A4 n4 c4) := (hba.cell (by simp; omega)).trans (by exact Cc1)
           have za7 : w4.heap.size < w8.heap.size := block_lt_of_cell ka7
           have ka8 : w8.cell? ⟨w5.heap.size, 0, none⟩ = some (.int .i64 m.base) := (hba.cell (by simp; omega)).trans (by exact Dc0)
           have za8 : w5.heap.size < w8.heap.size := block_lt_of_cell ka8
           have ka9 : w8.cell? ⟨w5.heap.size, 1, none⟩ = some (.slice A5 n5 c5) := (hba.cell (by simp; omega)).trans (by exact Dc1)
           have za9 : w5.heap.size < w8.heap.size := block_lt_of_cell ka9
           have ka10 : w8.cell? ⟨w6.heap.size, 0, none⟩ = some (.int .i64 (joinL l m).1.base) := (hba.cell (by simp; omega)).trans (by exact BGc0)
           have za10 : w6.heap.size < w8.heap.size := block_lt_of_cell ka10
           have ka11 : w8.cell? ⟨w6.heap.size, 1, none⟩ = some (.slice A6 n6 c6) := (hba.cell (by simp; omega)).trans (by exact BGc1)
           have za11 : w6.heap.size < w8.heap.size := block_lt_of_cell ka11
           have HBA := Lib.hid hba
           have rda := owna.rd
           have rdx := X0.out.rd.below (by first | exact hba | exact below_undrew hba)
           obtain ⟨Aa, na, ca, rfl, -, -, -⟩ := owna
           clear hba)
        | (go_at_call 19
           refine (eq_lab _ _ l l _ (by exact rdx) (by exact rda)).mono ?_
           rintro e w9 ⟨rfl, hbb⟩
           have kb0 : w9.cell? ⟨w.heap.size, 0, none⟩ = some (.int .i64 l.base) := (hbb.cell (by simp; omega)).trans (by exact ka0)
           have kb1 : w9.cell? ⟨w.heap.size, 1, none⟩ = some (.slice A n c) := (hbb.cell (by simp; omega)).trans (by exact ka1)
           have kb2 : w9.cell? ⟨w.heap.size + 1, 0, none⟩ = some (.int .i64 m.base) := (hbb.cell (by simp; omega)).trans (by exact ka2)
           have kb3 : w9.cell? ⟨w.heap.size + 1, 1, none⟩ = some (.slice B n' d) := (hbb.cell (by simp; omega)).trans (by exact ka3)
           have kb4 : w9.cell? ⟨g3, 0, none⟩ = some (.int .i64 (joinL l m).1.base) := (hbb.cell (by simp; omega)).trans (by exact ka4)
           have kb5 : w9.cell? ⟨g3, 1, none⟩ = some (.slice A3 n3 c3) := (hbb.cell (by simp; omega)).trans (by exact ka5)
           have kb6 : w9.cell? ⟨w4.heap.size, 0, none⟩ = some (.int .i64 l.base) := (hbb.cell (by simp; omega)).trans (by exact ka6)
           have kb7 : w9.cell? ⟨w4.heap.size, 1, none⟩ = some (.slice A4 n4 c4) := (hbb.cell (by simp; omega)).trans (by exact ka7)
           have kb8 : w9.cell? ⟨w5.heap.size, 0, none⟩ = some (.int .i64 m.base) := (hbb.cell (by simp; omega)).trans (by exact ka8)
           have kb9 : w9.cell? ⟨w5.heap.size, 1, none⟩ = some (.slice A5 n5 c5) := (hbb.cell (by simp; omega)).trans (by exact ka9)
           have kb10 : w9.cell? ⟨w6.heap.size, 0, none⟩ = some (.int .i64 (joinL l m).1.base) := (hbb.cell (by simp; omega)).trans (by exact ka10)
           have kb11 : w9.cell? ⟨w6.heap.size, 1, none⟩ = some (.slice A6 n6 c6) := (hbb.cell (by simp; omega)).trans (by exact ka11)
           have HBB : Hid (Below w7.heap.size w7 w9) := (by first | exact HBA.out | exact below_undrew HBA.out : Below w7.heap.size w7 w8).trans (hbb.mono (by first | exact HBA.out.size | exact (below_undrew HBA.out).size))
           clear hbb))
      have hb := HBB.out
      clear HBB HBA rda rdx ka0 za0 kb0 ka1 za1 kb1 ka2 za2 kb2 ka3 za3 kb3 ka4 za4 kb4 ka5 za5 kb5 ka6 za6 kb6 ka7 za7 kb7 ka8 za8 kb8 ka9 za9 kb9 ka10 za10 kb10 ka11 za11 kb11
      have sz9 : w7.heap.size ≤ w9.heap.size := by have := hb.size; simpa using this
      have Pc0' : w9.cell? ⟨w.heap.size, 0, none⟩ = some (.int .i64 l.base) := (hb.cell (by simp; omega)).trans (by first | exact Pc0 | (simp [go_sem, Pz, Pc0]; done))
      have Pc1' : w9.cell? ⟨w.heap.size, 1, none⟩ = some (.slice A n c) := (hb.cell (by simp; omega)).trans (by first | exact Pc1 | (simp [go_sem, Pz, Pc1]; done))
      have Qc0' : w9.cell? ⟨w.heap.size + 1, 0, none⟩ = some (.int .i64 m.base) := (hb.cell (by simp; omega)).trans (by first | exact Qc0 | (simp [go_sem, Qz, Qc0]; done))
      have Qc1' : w9.cell? ⟨w.heap.size + 1, 1, none⟩ = some (.slice B n' d) := (hb.cell (by simp; omega)).trans (by first | exact Qc1 | (simp [go_sem, Qz, Qc1]; done))
      have BWc0' : w9.cell? ⟨g3, 0, none⟩ = some (.int .i64 (joinL l m).1.base) := (hb.cell (by simp; omega)).trans (by first | exact BWc0 | (simp [go_sem, BWz, BWc0]; done))
      have BWc1' : w9.cell? ⟨g3, 1, none⟩ = some (.slice A3 n3 c3) := (hb.cell (by simp; omega)).trans (by first | exact BWc1 | (simp [go_sem, BWz, BWc1]; done))
      have Cc0' : w9.cell? ⟨w4.heap.size, 0, none⟩ = some (.int .i64 l.base) := (hb.cell (by simp; omega)).trans (by first | exact Cc0 | (simp [go_sem, Cz, Cc0]; done))
      have Cc1' : w9.cell? ⟨w4.heap.size, 1, none⟩ = some (.slice A4 n4 c4) := (hb.cell (by simp; omega)).trans (by first | exact Cc1 | (simp [go_sem, Cz, Cc1]; done))
      have Dc0' : w9.cell? ⟨w5.heap.size, 0, none⟩ = some (.int .i64 m.base) := (hb.cell (by simp; omega)).trans (by first | exact Dc0 | (simp [go_sem, Dz, Dc0]; done))
      have Dc1' : w9.cell? ⟨w5.heap.size, 1, none⟩ = some (.slice A5 n5 c5) := (hb.cell (by simp; omega)).trans (by first | exact Dc1 | (simp [go_sem, Dz, Dc1]; done))
      have BGc0' : w9.cell? ⟨w6.heap.size, 0, none⟩ = some (.int .i64 (joinL l m).1.base) := (hb.cell (by simp; omega)).trans (by first | exact BGc0 | (simp [go_sem, BGz, BGc0]; done))
      have BGc1' : w9.cell? ⟨w6.heap.size, 1, none⟩ = some (.slice A6 n6 c6) := (hb.cell (by simp; omega)).trans (by first | exact BGc1 | (simp [go_sem, BGz, BGc1]; done))
      clear Pc0 Pc1 Qc0 Qc1 BWc0 BWc1 Cc0 Cc1 Dc0 Dc1 BGc0 BGc1 Pz Qz BWz Cz Dz BGz
      have Pc0 := Pc0'
      have Pc1 := Pc1'
      have Pz := block_lt_of_cell Pc0
      have Qc0 := Qc0'
      have Qc1 := Qc1'
      have Qz := block_lt_of_cell Qc0
      have BWc0 := BWc0'
      have BWc1 := BWc1'
      have BWz := block_lt_of_cell BWc0
      have Cc0 := Cc0'
      have Cc1 := Cc1'
      have Cz := block_lt_of_cell Cc0
      have Dc0 := Dc0'
      have Dc1 := Dc1'
      have Dz := block_lt_of_cell Dc0
      have BGc0 := BGc0'
      have BGc1 := BGc1'
      have BGz := block_lt_of_cell BGc0
      clear Pc0' Pc1' Qc0' Qc1' BWc0' BWc1' Cc0' Cc1' Dc0' Dc1' BGc0' BGc1'
      have W0' := Lib.hid (by first | exact W0.out.below hb | exact W0.out.over hb | exact W0.out.below (below_undrew hb))
      clear W0
      have W0 := W0'
      clear W0'
      have X0' := Lib.hid (by first | exact X0.out.below hb | exact X0.out.over hb | exact X0.out.below (below_undrew hb))
      clear X0
      have X0 := X0'
      clear X0'
      have X1' := Lib.hid (by first | exact X1.out.below hb | exact X1.out.over hb | exact X1.out.below (below_undrew hb))
      clear X1
      have X1 := X1'
      clear X1'
      have G0' := Lib.hid (by first | exact G0.out.below hb | exact G0.out.over hb | exact G0.out.below (below_undrew hb))
      clear G0
      have G0 := G0'
      clear G0'
      have bel' : Below w.heap.size w w9 := bel.trans ((by first | exact hb | exact over_alloc hb | exact below_undrew hb : Below w7.heap.size w7 w9).mono bel.size)
      clear bel hb
      have bel := bel'
      clear bel'
      have heqm := labEq_rfl m
      go_wp2
      go_region_held3 (fun w' => w'.cell? ⟨w.heap.size, 0, none⟩ = some (.int .i64 l.base) ∧ w'.cell? ⟨w.heap.size, 1, none⟩ = some (.slice A n c) ∧ w'.cell? ⟨w.heap.size + 1, 0, none⟩ = some (.int .i64 m.base) ∧ w'.cell? ⟨w.heap.size + 1, 1, none⟩ = some (.slice B n' d) ∧ w'.cell? ⟨g3, 0, none⟩ = some (.int .i64 (joinL l m).1.base) ∧ w'.cell? ⟨g3, 1, none⟩ = some (.slice A3 n3 c3) ∧ w'.cell? ⟨w4.heap.size, 0, none⟩ = some (.int .i64 l.base) ∧ w'.cell? ⟨w4.heap.size, 1, none⟩ = some (.slice A4 n4 c4) ∧ w'.cell? ⟨w5.heap.size, 0, none⟩ = some (.int .i64 m.base) ∧ w'.cell? ⟨w5.heap.size, 1, none⟩ = some (.slice A5 n5 c5) ∧ w'.cell? ⟨w6.heap.size, 0, none⟩ = some (.int .i64 (joinL l m).1.base) ∧ w'.cell? ⟨w6.heap.size, 1, none⟩ = some (.slice A6 n6 c6))
        (first | exact ⟨kb0, kb1, kb2, kb3, kb4, kb5, kb6, kb7, kb8, kb9, kb10, kb11⟩ | exact ⟨ka0, ka1, ka2, ka3, ka4, ka5, ka6, ka7, ka8, ka9, ka10, ka11⟩ | go_keep)
        (first
        | (go_at_call 18
           refine (to_lab _ m _ (hq.below (by first | exact bel | exact bel.drew))).mono ?_
           rintro e w10 ⟨va, rfl, owna, hba⟩
           have ka0 : w10.cell? ⟨w.heap.size, 0, none⟩ = some (.int .i64 l.base) := (hba.cell (by simp; omega)).trans (by exact Pc0)
           have za0 : w.heap.size < w10.heap.size := block_lt_of_cell ka0
           have ka1 : w10.cell? ⟨w.heap.size, 1, none⟩ = some (.slice A n c) := (hba.cell (by simp; omega)).trans (by exact Pc1)
           have za1 : w.heap.size < w10.heap.size := block_lt_of_cell ka1
           have ka2 : w10.cell? ⟨w.heap.size + 1, 0, none⟩ = some (.int .i64 m.base) := (hba.cell (by simp; omega)).trans (by exact Qc0)
           have za2 : w.heap.size + 1 < w10.heap.size := block_lt_of_cell ka2
           have ka3 : w10.cell? ⟨w.heap.size + 1, 1, none⟩ = some (.slice B n' d) := (hba.cell (by simp; omega)).trans (by exact Qc1)
           have za3 : w.heap.size + 1 < w10.heap.size := block_lt_of_cell ka3
           have ka4 : w10.cell? ⟨g3, 0, none⟩ = some (.int .i64 (joinL l m).1.base) := (hba.cell (by simp; omega)).trans (by exact BWc0)
           have za4 : g3 < w10.heap.size := block_lt_of_cell ka4
           have ka5 : w10.cell? ⟨g3, 1, none⟩ = some (.slice A3 n3 c3) := (hba.cell (by simp; omega)).trans (by exact BWc1)
           have za5 : g3 < w10.heap.size := block_lt_of_cell ka5
           have ka6 : w10.cell? ⟨w4.heap.size, 0, none⟩ = some (.int .i64 l.base) := (hba.cell (by simp; omega)).trans (by exact Cc0)
           have za6 : w4.heap.size < w10.heap.size := block_lt_of_cell ka6
           have ka7 : w10.cell? ⟨w4.heap.size, 1, none⟩ = some (.slice A4 n4 c4) := (hba.cell (by simp; omega)).trans (by exact Cc1)
           have za7 : w4.heap.size < w10.heap.size := block_lt_of_cell ka7
           have ka8 : w10.cell? ⟨w5.heap.size, 0, none⟩ = some (.int .i64 m.base) := (hba.cell (by simp; omega)).trans (by exact Dc0)
           have za8 : w5.heap.size < w10.heap.size := block_lt_of_cell ka8
           have ka9 : w10.cell? ⟨w5.heap.size, 1, none⟩ = some (.slice A5 n5 c5) := (hba.cell (by simp; omega)).trans (by exact Dc1)
           have za9 : w5.heap.size < w10.heap.size := block_lt_of_cell ka9
           have ka10 : w10.cell? ⟨w6.heap.size, 0, none⟩ = some (.int .i64 (joinL l m).1.base) := (hba.cell (by simp; omega)).trans (by exact BGc0)
           have za10 : w6.heap.size < w10.heap.size := block_lt_of_cell ka10
           have ka11 : w10.cell? ⟨w6.heap.size, 1, none⟩ = some (.slice A6 n6 c6) := (hba.cell (by simp; omega)).trans (by exact BGc1)
           have za11 : w6.heap.size < w10.heap.size := block_lt_of_cell ka11
           have HBA := Lib.hid hba
           have rda := owna.rd
           have rdx := X1.out.rd.below (by first | exact hba | exact below_undrew hba)
           obtain ⟨Aa, na, ca, rfl, -, -, -⟩ := owna
           clear hba)
        | (go_at_call 19
           refine (eq_lab _ _ m m _ (by exact rdx) (by exact rda)).mono ?_
           rintro e w11 ⟨rfl, hbb⟩
           have kb0 : w11.cell? ⟨w.heap.size, 0, none⟩ = some (.int .i64 l.base) := (hbb.cell (by simp; omega)).trans (by exact ka0)
           have kb1 : w11.cell? ⟨w.heap.size, 1, none⟩ = some (.slice A n c) := (hbb.cell (by simp; omega)).trans (by exact ka1)
           have kb2 : w11.cell? ⟨w.heap.size + 1, 0, none⟩ = some (.int .i64 m.base) := (hbb.cell (by simp; omega)).trans (by exact ka2)
           have kb3 : w11.cell? ⟨w.heap.size + 1, 1, none⟩ = some (.slice B n' d) := (hbb.cell (by simp; omega)).trans (by exact ka3)
           have kb4 : w11.cell? ⟨g3, 0, none⟩ = some (.int .i64 (joinL l m).1.base) := (hbb.cell (by simp; omega)).trans (by exact ka4)
           have kb5 : w11.cell? ⟨g3, 1, none⟩ = some (.slice A3 n3 c3) := (hbb.cell (by simp; omega)).trans (by exact ka5)
           have kb6 : w11.cell? ⟨w4.heap.size, 0, none⟩ = some (.int .i64 l.base) := (hbb.cell (by simp; omega)).trans (by exact ka6)
           have kb7 : w11.cell? ⟨w4.heap.size, 1, none⟩ = some (.slice A4 n4 c4) := (hbb.cell (by simp; omega)).trans (by exact ka7)
           have kb8 : w11.cell? ⟨w5.heap.size, 0, none⟩ = some (.int .i64 m.base) := (hbb.cell (by simp; omega)).trans (by exact ka8)
           have kb9 : w11.cell? ⟨w5.heap.size, 1, none⟩ = some (.slice A5 n5 c5) := (hbb.cell (by simp; omega)).trans (by exact ka9)
           have kb10 : w11.cell? ⟨w6.heap.size, 0, none⟩ = some (.int .i64 (joinL l m).1.base) := (hbb.cell (by simp; omega)).trans (by exact ka10)
           have kb11 : w11.cell? ⟨w6.heap.size, 1, none⟩ = some (.slice A6 n6 c6) := (hbb.cell (by simp; omega)).trans (by exact ka11)
           have HBB : Hid (Below w9.heap.size w9 w11) := (by first | exact HBA.out | exact below_undrew HBA.out : Below w9.heap.size w9 w10).trans (hbb.mono (by first | exact HBA.out.size | exact (below_undrew HBA.out).size))
           clear hbb))
      have hb := HBB.out
      clear HBB HBA rda rdx ka0 za0 kb0 ka1 za1 kb1 ka2 za2 kb2 ka3 za3 kb3 ka4 za4 kb4 ka5 za5 kb5 ka6 za6 kb6 ka7 za7 kb7 ka8 za8 kb8 ka9 za9 kb9 ka10 za10 kb10 ka11 za11 kb11
      have sz11 : w9.heap.size ≤ w11.heap.size := by have := hb.size; simpa using this
      have Pc0' : w11.cell? ⟨w.heap.size, 0, none⟩ = some (.int .i64 l.base) := (hb.cell (by simp; omega)).trans (by first | exact Pc0 | (simp [go_sem, Pz, Pc0]; done))
      have Pc1' : w11.cell? ⟨w.heap.size, 1, none⟩ = some (.slice A n c) := (hb.cell (by simp; omega)).trans (by first | exact Pc1 | (simp [go_sem, Pz, Pc1]; done))
      have Qc0' : w11.cell? ⟨w.heap.size + 1, 0, none⟩ = some (.int .i64 m.base) := (hb.cell (by simp; omega)).trans (by first | exact Qc0 | (simp [go_sem, Qz, Qc0]; done))
      have Qc1' : w11.cell? ⟨w.heap.size + 1, 1, none⟩ = some (.slice B n' d) := (hb.cell (by simp; omega)).trans (by first | exact Qc1 | (simp [go_sem, Qz, Qc1]; done))
      have BWc0' : w11.cell? ⟨g3, 0, none⟩ = some (.int .i64 (joinL l m).1.base) := (hb.cell (by simp; omega)).trans (by first | exact BWc0 | (simp [go_sem, BWz, BWc0]; done))
      have BWc1' : w11.cell? ⟨g3, 1, none⟩ = some (.slice A3 n3 c3) := (hb.cell (by simp; omega)).trans (by first | exact BWc1 | (simp [go_sem, BWz, BWc1]; done))
      have Cc0' : w11.cell? ⟨w4.heap.size, 0, none⟩ = some (.int .i64 l.base) := (hb.cell (by simp; omega)).trans (by first | exact Cc0 | (simp [go_sem, Cz, Cc0]; done))
      have Cc1' : w11.cell? ⟨w4.heap.size, 1, none⟩ = some (.slice A4 n4 c4) := (hb.cell (by simp; omega)).trans (by first | exact Cc1 | (simp [go_sem, Cz, Cc1]; done))
      have Dc0' : w11.cell? ⟨w5.heap.size, 0, none⟩ = some (.int .i64 m.base) := (hb.cell (by simp; omega)).trans (by first | exact Dc0 | (simp [go_sem, Dz, Dc0]; done))
      have Dc1' : w11.cell? ⟨w5.heap.size, 1, none⟩ = some (.slice A5 n5 c5) := (hb.cell (by simp; omega)).trans (by first | exact Dc1 | (simp [go_sem, Dz, Dc1]; done))
      have BGc0' : w11.cell? ⟨w6.heap.size, 0, none⟩ = some (.int .i64 (joinL l m).1.base) := (hb.cell (by simp; omega)).trans (by first | exact BGc0 | (simp [go_sem, BGz, BGc0]; done))
      have BGc1' : w11.cell? ⟨w6.heap.size, 1, none⟩ = some (.slice A6 n6 c6) := (hb.cell (by simp; omega)).trans (by first | exact BGc1 | (simp [go_sem, BGz, BGc1]; done))
      clear Pc0 Pc1 Qc0 Qc1 BWc0 BWc1 Cc0 Cc1 Dc0 Dc1 BGc0 BGc1 Pz Qz BWz Cz Dz BGz
      have Pc0 := Pc0'
      have Pc1 := Pc1'
      have Pz := block_lt_of_cell Pc0
      have Qc0 := Qc0'
      have Qc1 := Qc1'
      have Qz := block_lt_of_cell Qc0
      have BWc0 := BWc0'
      have BWc1 := BWc1'
      have BWz := block_lt_of_cell BWc0
      have Cc0 := Cc0'
      have Cc1 := Cc1'
      have Cz := block_lt_of_cell Cc0
      have Dc0 := Dc0'
      have Dc1 := Dc1'
      have Dz := block_lt_of_cell Dc0
      have BGc0 := BGc0'
      have BGc1 := BGc1'
      have BGz := block_lt_of_cell BGc0
      clear Pc0' Pc1' Qc0' Qc1' BWc0' BWc1' Cc0' Cc1' Dc0' Dc1' BGc0' BGc1'
      have W0' := Lib.hid (by first | exact W0.out.below hb | exact W0.out.over hb | exact W0.out.below (below_undrew hb))
      clear W0
      have W0 := W0'
      clear W0'
      have X0' := Lib.hid (by first | exact X0.out.below hb | exact X0.out.over hb | exact X0.out.below (below_undrew hb))
      clear X0
      have X0 := X0'
      clear X0'
      have X1' := Lib.hid (by first | exact X1.out.below hb | exact X1.out.over hb | exact X1.out.below (below_undrew hb))
      clear X1
      have X1 := X1'
      clear X1'
      have G0' := Lib.hid (by first | exact G0.out.below hb | exact G0.out.over hb | exact G0.out.below (below_undrew hb))
      clear G0
      have G0 := G0'
      clear G0'
      have bel' : Below w.heap.size w w11 := bel.trans ((by first | exact hb | exact over_alloc hb | exact below_undrew hb : Below w9.heap.size w9 w11).mono bel.size)
      clear bel hb
      have bel := bel'
      clear bel'
      go_wp2_with fail
      refine (mark_lab _ l _ _ _ (by omega) (by omega) X0.out).mono ?_
      rintro e w12 ⟨rfl, own, hg⟩
      have sz12 : w11.heap.size ≤ w12.heap.size := hg.size
      have Pc0' : w12.cell? ⟨w.heap.size, 0, none⟩ = some (.int .i64 l.base) := hg.cell Pc0 (fun e => by have := X0r.out (w.heap.size) e.symm; omega)
      have Pc1' : w12.cell? ⟨w.heap.size, 1, none⟩ = some (.slice A n c) := hg.cell Pc1 (fun e => by have := X0r.out (w.heap.size) e.symm; omega)
      have Qc0' : w12.cell? ⟨w.heap.size + 1, 0, none⟩ = some (.int .i64 m.base) := hg.cell Qc0 (fun e => by have := X0r.out (w.heap.size + 1) e.symm; omega)
      have Qc1' : w12.cell? ⟨w.heap.size + 1, 1, none⟩ = some (.slice B n' d) := hg.cell Qc1 (fun e => by have := X0r.out (w.heap.size + 1) e.symm; omega)
      have BWc0' : w12.cell? ⟨g3, 0, none⟩ = some (.int .i64 (joinL l m).1.base) := hg.cell BWc0 (fun e => by have := X0r.out (g3) e.symm; omega)
      have BWc1' : w12.cell? ⟨g3, 1, none⟩ = some (.slice A3 n3 c3) := hg.cell BWc1 (fun e => by have := X0r.out (g3) e.symm; omega)
      have Cc0' : w12.cell? ⟨w4.heap.size, 0, none⟩ = some (.int .i64 l.base) := hg.cell Cc0 (fun e => by have := X0r.out (w4.heap.size) e.symm; omega)
      have Cc1' : w12.cell? ⟨w4.heap.size, 1, none⟩ = some (.slice A4 n4 c4) := hg.cell Cc1 (fun e => by have := X0r.out (w4.heap.size) e.symm; omega)
      have Dc0' : w12.cell? ⟨w5.heap.size, 0, none⟩ = some (.int .i64 m.base) := hg.cell Dc0 (fun e => by have := X0r.out (w5.heap.size) e.symm; omega)
      have Dc1' : w12.cell? ⟨w5.heap.size, 1, none⟩ = some (.slice A5 n5 c5) := hg.cell Dc1 (fun e => by have := X0r.out (w5.heap.size) e.symm; omega)
      have BGc0' : w12.cell? ⟨w6.heap.size, 0, none⟩ = some (.int .i64 (joinL l m).1.base) := hg.cell BGc0 (fun e => by have := X0r.out (w6.heap.size) e.symm; omega)
      have BGc1' : w12.cell? ⟨w6.heap.size, 1, none⟩ = some (.slice A6 n6 c6) := hg.cell BGc1 (fun e => by have := X0r.out (w6.heap.size) e.symm; omega)
      clear Pc0 Pc1 Qc0 Qc1 BWc0 BWc1 Cc0 Cc1 Dc0 Dc1 BGc0 BGc1 Pz Qz BWz Cz Dz BGz
      have Pc0 := Pc0'
      have Pc1 := Pc1'
      have Pz := block_lt_of_cell Pc0
      have Qc0 := Qc0'
      have Qc1 := Qc1'
      have Qz := block_lt_of_cell Qc0
      have BWc0 := BWc0'
      have BWc1 := BWc1'
      have BWz := block_lt_of_cell BWc0
      have Cc0 := Cc0'
      have Cc1 := Cc1'
      have Cz := block_lt_of_cell Cc0
      have Dc0 := Dc0'
      have Dc1 := Dc1'
      have Dz := block_lt_of_cell Dc0
      have BGc0 := BGc0'
      have BGc1 := BGc1'
      have BGz := block_lt_of_cell BGc0
      clear Pc0' Pc1' Qc0' Qc1' BWc0' BWc1' Cc0' Cc1' Dc0' Dc1' BGc0' BGc1'
      have W0' := Lib.hid (W0.out.keptBy hg (fun k hk e => by have := X0r.out _ e; have := W0r.out _ hk; omega))
      clear W0
      have W0 := W0'
      clear W0'
      have X1' := Lib.hid (X1.out.keptBy hg (fun k hk e => by have := X0r.out _ e; have := X1r.out _ hk; omega))
      clear X1
      have X1 := X1'
      clear X1'
      have G0' := Lib.hid (G0.out.keptBy hg (fun k hk e => by have := X0r.out _ e; have := G0r.out _ hk; omega))
      clear G0
      have G0 := G0'
      clear G0'
      clear X0
      have X0 := Lib.hid own
      have bel' : Below w.heap.size w w12 := bel.grown hg bel.size (fun k hk => by have := X0r.out _ hk; omega)
      clear bel hg own
      have bel := bel'
      clear bel'
      go_wp2_with fail
      refine (mark_lab _ m _ _ _ (by omega) (by omega) X1.out).mono ?_
      rintro e w13 ⟨rfl, own, hg⟩
      have sz13 : w12.heap.size ≤ w13.heap.size := hg.size
      have Pc0' : w13.cell? ⟨w.heap.size, 0, none⟩ = some (.int .i64 l.base) := hg.cell Pc0 (fun e => by have := X1r.out (w.heap.size) e.symm; omega)
      have Pc1' : w13.cell? ⟨w.heap.size, 1, none⟩ = some (.slice A n c) := hg.cell Pc1 (fun e => by have := X1r.out (w.heap.size) e.symm; omega)
      have Qc0' : w13.cell? ⟨w.heap.size + 1, 0, none⟩ = some (.int .i64 m.base) := hg.cell Qc0 (fun e => by have := X1r.out (w.heap.size + 1) e.symm; omega)
      have Qc1' : w13.cell? ⟨w.heap.size + 1, 1, none⟩ = some (.slice B n' d) := hg.cell Qc1 (fun e => by have := X1r.out (w.heap.size + 1) e.symm; omega)
      have BWc0' : w13.cell? ⟨g3, 0, none⟩ = some (.int .i64 (joinL l m).1.base) := hg.cell BWc0 (fun e => by have := X1r.out (g3) e.symm; omega)
      have BWc1' : w13.cell? ⟨g3, 1, none⟩ = some (.slice A3 n3 c3) := hg.cell BWc1 (fun e => by have := X1r.out (g3) e.symm; omega)
      have Cc0' : w13.cell? ⟨w4.heap.size, 0, none⟩ = some (.int .i64 l.base) := hg.cell Cc0 (fun e => by have := X1r.out (w4.heap.size) e.symm; omega)
      have Cc1' : w13.cell? ⟨w4.heap.size, 1, none⟩ = some (.slice A4 n4 c4) := hg.cell Cc1 (fun e => by have := X1r.out (w4.heap.size) e.symm; omega)
      have Dc0' : w13.cell? ⟨w5.heap.size, 0, none⟩ = some (.int .i64 m.base) := hg.cell Dc0 (fun e => by have := X1r.out (w5.heap.size) e.symm; omega)
      have Dc1' : w13.cell? ⟨w5.heap.size, 1, none⟩ = some (.slice A5 n5 c5) := hg.cell Dc1 (fun e => by have := X1r.out (w5.heap.size) e.symm; omega)
      have BGc0' : w13.cell? ⟨w6.heap.size, 0, none⟩ = some (.int .i64 (joinL l m).1.base) := hg.cell BGc0 (fun e => by have := X1r.out (w6.heap.size) e.symm; omega)
      have BGc1' : w13.cell? ⟨w6.heap.size, 1, none⟩ = some (.slice A6 n6 c6) := hg.cell BGc1 (fun e => by have := X1r.out (w6.heap.size) e.symm; omega)
      clear Pc0 Pc1 Qc0 Qc1 BWc0 BWc1 Cc0 Cc1 Dc0 Dc1 BGc0 BGc1 Pz Qz BWz Cz Dz BGz
      have Pc0 := Pc0'
      have Pc1 := Pc1'
      have Pz := block_lt_of_cell Pc0
      have Qc0 := Qc0'
      have Qc1 := Qc1'
      have Qz := block_lt_of_cell Qc0
      have BWc0 := BWc0'
      have BWc1 := BWc1'
      have BWz := block_lt_of_cell BWc0
      have Cc0 := Cc0'
      have Cc1 := Cc1'
      have Cz := block_lt_of_cell Cc0
      have Dc0 := Dc0'
      have Dc1 := Dc1'
      have Dz := block_lt_of_cell Dc0
      have BGc0 := BGc0'
      have BGc1 := BGc1'
      have BGz := block_lt_of_cell BGc0
      clear Pc0' Pc1' Qc0' Qc1' BWc0' BWc1' Cc0' Cc1' Dc0' Dc1' BGc0' BGc1'
      have W0' := Lib.hid (W0.out.keptBy hg (fun k hk e => by have := X1r.out _ e; have := W0r.out _ hk; omega))
      clear W0
      have W0 := W0'
      clear W0'
      have X0' := Lib.hid (X0.out.keptBy hg (fun k hk e => by have := X1r.out _ e; have := X0r.out _ hk; omega))
      clear X0
      have X0 := X0'
      clear X0'
      have G0' := Lib.hid (G0.out.keptBy hg (fun k hk e => by have := X1r.out _ e; have := G0r.out _ hk; omega))
      clear G0
      have G0 := G0'
      clear G0'
      clear X1
      have X1 := Lib.hid own
      have bel' : Below w.heap.size w w13 := bel.grown hg bel.size (fun k hk => by have := X1r.out _ hk; omega)
      clear bel hg own
      have bel := bel'
      clear bel'
      clear X0 X0r
      clear X1 X1r
      have hk1 : ¬ (1 : Int) + 2 * (l.parts.length : Int) + 2 * (m.parts.length : Int) < 0 := by omega
      go_wp2_with fail
      refine (eq_lab _ _ (joinL l m).1 (joinL l m).1 _ (by first | exact G0.out.rd | exact G0.out.rd.alloc _) (by first | exact W0.out.rd | exact W0.out.rd.alloc _)).mono ?_
      rintro e w14 ⟨rfl, hb⟩
      have sz14 : w13.heap.size ≤ w14.heap.size := by have := hb.size; simpa using this
      have Pc0' : w14.cell? ⟨w.heap.size, 0, none⟩ = some (.int .i64 l.base) := (hb.cell (by simp; omega)).trans (by first | exact Pc0 | (simp [go_sem, Pz, Pc0]; done))
      have Pc1' : w14.cell? ⟨w.heap.size, 1, none⟩ = some (.slice A n c) := (hb.cell (by simp; omega)).trans (by first | exact Pc1 | (simp [go_sem, Pz, Pc1]; done))
      have Qc0' : w14.cell? ⟨w.heap.size + 1, 0, none⟩ = some (.int .i64 m.base) := (hb.cell (by simp; omega)).trans (by first | exact Qc0 | (simp [go_sem, Qz, Qc0]; done))
      have Qc1' : w14.cell? ⟨w.heap.size + 1, 1, none⟩ = some (.slice B n' d) := (hb.cell (by simp; omega)).trans (by first | exact Qc1 | (simp [go_sem, Qz, Qc1]; done))
      have BWc0' : w14.cell? ⟨g3, 0, none⟩ = some (.int .i64 (joinL l m).1.base) := (hb.cell (by simp; omega)).trans (by first | exact BWc0 | (simp [go_sem, BWz, BWc0]; done))
      have BWc1' : w14.cell? ⟨g3, 1, none⟩ = some (.slice A3 n3 c3) := (hb.cell (by simp; omega)).trans (by first | exact BWc1 | (simp [go_sem, BWz, BWc1]; done))
      have Cc0' : w14.cell? ⟨w4.heap.size, 0, none⟩ = some (.int .i64 l.base) := (hb.cell (by simp; omega)).trans (by first | exact Cc0 | (simp [go_sem, Cz, Cc0]; done))
      have Cc1' : w14.cell? ⟨w4.heap.size, 1, none⟩ = some (.slice A4 n4 c4) := (hb.cell (by simp; omega)).trans (by first | exact Cc1 | (simp [go_sem, Cz, Cc1]; done))
      have Dc0' : w14.cell? ⟨w5.heap.size, 0, none⟩ = some (.int .i64 m.base) := (hb.cell (by simp; omega)).trans (by first | exact Dc0 | (simp [go_sem, Dz, Dc0]; done))
      have Dc1' : w14.cell? ⟨w5.heap.size, 1, none⟩ = some (.slice A5 n5 c5) := (hb.cell (by simp; omega)).trans (by first | exact Dc1 | (simp [go_sem, Dz, Dc1]; done))
      have BGc0' : w14.cell? ⟨w6.heap.size, 0, none⟩ = some (.int .i64 (joinL l m).1.base) := (hb.cell (by simp; omega)).trans (by first | exact BGc0 | (simp [go_sem, BGz, BGc0]; done))
      have BGc1' : w14.cell? ⟨w6.heap.size, 1, none⟩ = some (.slice A6 n6 c6) := (hb.cell (by simp; omega)).trans (by first | exact BGc1 | (simp [go_sem, BGz, BGc1]; done))
      clear Pc0 Pc1 Qc0 Qc1 BWc0 BWc1 Cc0 Cc1 Dc0 Dc1 BGc0 BGc1 Pz Qz BWz Cz Dz BGz
      have Pc0 := Pc0'
      have Pc1 := Pc1'
      have Pz := block_lt_of_cell Pc0
      have Qc0 := Qc0'
      have Qc1 := Qc1'
      have Qz := block_lt_of_cell Qc0
      have BWc0 := BWc0'
      have BWc1 := BWc1'
      have BWz := block_lt_of_cell BWc0
      have Cc0 := Cc0'
      have Cc1 := Cc1'
      have Cz := block_lt_of_cell Cc0
      have Dc0 := Dc0'
      have Dc1 := Dc1'
      have Dz := block_lt_of_cell Dc0
      have BGc0 := BGc0'
      have BGc1 := BGc1'
      have BGz := block_lt_of_cell BGc0
      clear Pc0' Pc1' Qc0' Qc1' BWc0' BWc1' Cc0' Cc1' Dc0' Dc1' BGc0' BGc1'
      have W0' := Lib.hid (by first | exact W0.out.below hb | exact W0.out.over hb | exact W0.out.below (below_undrew hb))
      clear W0
      have W0 := W0'
      clear W0'
      have G0' := Lib.hid (by first | exact G0.out.below hb | exact G0.out.over hb | exact G0.out.below (below_undrew hb))
      clear G0
      have G0 := G0'
      clear G0'
      have bel' : Below w.heap.size w w14 := bel.trans ((by first | exact hb | exact over_alloc hb | exact below_undrew hb : Below w13.heap.size w13 w14).mono bel.size)
      clear bel hb
      have bel := bel'
      clear bel'
      go_wp2_with fail
      refine (mark_lab _ (joinL l m).1 _ _ _ (by omega) (by omega) G0.out).mono ?_
      rintro e w15 ⟨rfl, own, hg⟩
      have sz15 : w14.heap.size ≤ w15.heap.size := hg.size
      have Pc0' : w15.cell? ⟨w.heap.size, 0, none⟩ = some (.int .i64 l.base) := hg.cell Pc0 (fun e => by have := G0r.out (w.heap.size) e.symm; omega)
      have Pc1' : w15.cell? ⟨w.heap.size, 1, none⟩ = some (.slice A n c) := hg.cell Pc1 (fun e => by have := G0r.out (w.heap.size) e.symm; omega)
      have Qc0' : w15.cell? ⟨w.heap.size + 1, 0, none⟩ = some (.int .i64 m.base) := hg.cell Qc0 (fun e => by have := G0r.out (w.heap.size + 1) e.symm; omega)
      have Qc1' : w15.cell? ⟨w.heap.size + 1, 1, none⟩ = some (.slice B n' d) := hg.cell Qc1 (fun e => by have := G0r.out (w.heap.size + 1) e.symm; omega)
      have BWc0' : w15.cell? ⟨g3, 0, none⟩ = some (.int .i64 (joinL l m).1.base) := hg.cell BWc0 (fun e => by have := G0r.out (g3) e.symm; omega)
      have BWc1' : w15.cell? ⟨g3, 1, none⟩ = some (.slice A3 n3 c3) := hg.cell BWc1 (fun e => by have := G0r.out (g3) e.symm; omega)
      have Cc0' : w15.cell? ⟨w4.heap.size, 0, none⟩ = some (.int .i64 l.base) := hg.cell Cc0 (fun e => by have := G0r.out (w4.heap.size) e.symm; omega)
      have Cc1' : w15.cell? ⟨w4.heap.size, 1, none⟩ = some (.slice A4 n4 c4) := hg.cell Cc1 (fun e => by have := G0r.out (w4.heap.size) e.symm; omega)
      have Dc0' : w15.cell? ⟨w5.heap.size, 0, none⟩ = some (.int .i64 m.base) := hg.cell Dc0 (fun e => by have := G0r.out (w5.heap.size) e.symm; omega)
      have Dc1' : w15.cell? ⟨w5.heap.size, 1, none⟩ = some (.slice A5 n5 c5) := hg.cell Dc1 (fun e => by have := G0r.out (w5.heap.size) e.symm; omega)
      have BGc0' : w15.cell? ⟨w6.heap.size, 0, none⟩ = some (.int .i64 (joinL l m).1.base) := hg.cell BGc0 (fun e => by have := G0r.out (w6.heap.size) e.symm; omega)
      have BGc1' : w15.cell? ⟨w6.heap.size, 1, none⟩ = some (.slice A6 n6 c6) := hg.cell BGc1 (fun e => by have := G0r.out (w6.heap.size) e.symm; omega)
      clear Pc0 Pc1 Qc0 Qc1 BWc0 BWc1 Cc0 Cc1 Dc0 Dc1 BGc0 BGc1 Pz Qz BWz Cz Dz BGz
      have Pc0 := Pc0'
      have Pc1 := Pc1'
      have Pz := block_lt_of_cell Pc0
      have Qc0 := Qc0'
      have Qc1 := Qc1'
      have Qz := block_lt_of_cell Qc0
      have BWc0 := BWc0'
      have BWc1 := BWc1'
      have BWz := block_lt_of_cell BWc0
      have Cc0 := Cc0'
      have Cc1 := Cc1'
      have Cz := block_lt_of_cell Cc0
      have Dc0 := Dc0'
      have Dc1 := Dc1'
      have Dz := block_lt_of_cell Dc0
      have BGc0 := BGc0'
      have BGc1 := BGc1'
      have BGz := block_lt_of_cell BGc0
      clear Pc0' Pc1' Qc0' Qc1' BWc0' BWc1' Cc0' Cc1' Dc0' Dc1' BGc0' BGc1'
      have W0' := Lib.hid (W0.out.keptBy hg (fun k hk e => by have := G0r.out _ e; have := W0r.out _ hk; omega))
      clear W0
      have W0 := W0'
      clear W0'
      clear G0
      have G0 := Lib.hid own
      have bel' : Below w.heap.size w w15 := bel.grown hg bel.size (fun k hk => by have := G0r.out _ hk; omega)
      clear bel hg own
      have bel := bel'
      clear bel'
      have hk2 : ¬ (1 : Int) + 2 * ((joinL l m).1.parts.length : Int) < 0 := by omega
      go_wp2_with fail
      refine (held_lab _ (joinL l m).1 1 _ (by omega) (by omega) G0.out.rd).mono ?_
      rintro e w16 ⟨rfl, hb⟩
      have sz16 : w15.heap.size ≤ w16.heap.size := by have := hb.size; simpa using this
      have Pc0' : w16.cell? ⟨w.heap.size, 0, none⟩ = some (.int .i64 l.base) := (hb.cell (by simp; omega)).trans (by first | exact Pc0 | (simp [go_sem, Pz, Pc0]; done))
      have Pc1' : w16.cell? ⟨w.heap.size, 1, none⟩ = some (.slice A n c) := (hb.cell (by simp; omega)).trans (by first | exact Pc1 | (simp [go_sem, Pz, Pc1]; done))
      have Qc0' : w16.cell? ⟨w.heap.size + 1, 0, none⟩ = some (.int .i64 m.base) := (hb.cell (by simp; omega)).trans (by first | exact Qc0 | (simp [go_sem, Qz, Qc0]; done))
      have Qc1' : w16.cell? ⟨w.heap.size + 1, 1, none⟩ = some (.slice B n' d) := (hb.cell (by simp; omega)).trans (by first | exact Qc1 | (simp [go_sem, Qz, Qc1]; done))
      have BWc0' : w16.cell? ⟨g3, 0, none⟩ = some (.int .i64 (joinL l m).1.base) := (hb.cell (by simp; omega)).trans (by first | exact BWc0 | (simp [go_sem, BWz, BWc0]; done))
      have BWc1' : w16.cell? ⟨g3, 1, none⟩ = some (.slice A3 n3 c3) := (hb.cell (by simp; omega)).trans (by first | exact BWc1 | (simp [go_sem, BWz, BWc1]; done))
      have Cc0' : w16.cell? ⟨w4.heap.size, 0, none⟩ = some (.int .i64 l.base) := (hb.cell (by simp; omega)).trans (by first | exact Cc0 | (simp [go_sem, Cz, Cc0]; done))
      have Cc1' : w16.cell? ⟨w4.heap.size, 1, none⟩ = some (.slice A4 n4 c4) := (hb.cell (by simp; omega)).trans (by first | exact Cc1 | (simp [go_sem, Cz, Cc1]; done))
      have Dc0' : w16.cell? ⟨w5.heap.size, 0, none⟩ = some (.int .i64 m.base) := (hb.cell (by simp; omega)).trans (by first | exact Dc0 | (simp [go_sem, Dz, Dc0]; done))
      have Dc1' : w16.cell? ⟨w5.heap.size, 1, none⟩ = some (.slice A5 n5 c5) := (hb.cell (by simp; omega)).trans (by first | exact Dc1 | (simp [go_sem, Dz, Dc1]; done))
      have BGc0' : w16.cell? ⟨w6.heap.size, 0, none⟩ = some (.int .i64 (joinL l m).1.base) := (hb.cell (by simp; omega)).trans (by first | exact BGc0 | (simp [go_sem, BGz, BGc0]; done))
      have BGc1' : w16.cell? ⟨w6.heap.size, 1, none⟩ = some (.slice A6 n6 c6) := (hb.cell (by simp; omega)).trans (by first | exact BGc1 | (simp [go_sem, BGz, BGc1]; done))
      clear Pc0 Pc1 Qc0 Qc1 BWc0 BWc1 Cc0 Cc1 Dc0 Dc1 BGc0 BGc1 Pz Qz BWz Cz Dz BGz
      have Pc0 := Pc0'
      have Pc1 := Pc1'
      have Pz := block_lt_of_cell Pc0
      have Qc0 := Qc0'
      have Qc1 := Qc1'
      have Qz := block_lt_of_cell Qc0
      have BWc0 := BWc0'
      have BWc1 := BWc1'
      have BWz := block_lt_of_cell BWc0
      have Cc0 := Cc0'
      have Cc1 := Cc1'
      have Cz := block_lt_of_cell Cc0
      have Dc0 := Dc0'
      have Dc1 := Dc1'
      have Dz := block_lt_of_cell Dc0
      have BGc0 := BGc0'
      have BGc1 := BGc1'
      have BGz := block_lt_of_cell BGc0
      clear Pc0' Pc1' Qc0' Qc1' BWc0' BWc1' Cc0' Cc1' Dc0' Dc1' BGc0' BGc1'
      have W0' := Lib.hid (by first | exact W0.out.below hb | exact W0.out.over hb | exact W0.out.below (below_undrew hb))
      clear W0
      have W0 := W0'
      clear W0'
      have G0' := Lib.hid (by first | exact G0.out.below hb | exact G0.out.over hb | exact G0.out.below (below_undrew hb))
      clear G0
      have G0 := G0'
      clear G0'
      have bel' : Below w.heap.size w w16 := bel.trans ((by first | exact hb | exact over_alloc hb | exact below_undrew hb : Below w15.heap.size w15 w16).mono bel.size)
      clear bel hb
      have bel := bel'
      clear bel'
      have HC := Lib.hid (Below.refl w16.heap.size w16)
      go_upto_region 31 with fail
      go_cut [15, 16] (fun sa sb wx => Boxed w16 (joinL l m).1 (joinL l m).2 sa sb wx)
      case first =>
        go_region_held3 (fun w' => w'.cell? ⟨w.heap.size, 0, none⟩ = some (.int .i64 l.base) ∧ w'.cell? ⟨w.heap.size, 1, none⟩ = some (.slice A n c) ∧ w'.cell? ⟨w.heap.size + 1, 0, none⟩ = some (.int .i64 m.base) ∧ w'.cell? ⟨w.heap.size + 1, 1, none⟩ = some (.slice B n' d) ∧ w'.cell? ⟨g3, 0, none⟩ = some (.int .i64 (joinL l m).1.base) ∧ w'.cell? ⟨g3, 1, none⟩ = some (.slice A3 n3 c3) ∧ w'.cell? ⟨w4.heap.size, 0, none⟩ = some (.int .i64 l.base) ∧ w'.cell? ⟨w4.heap.size, 1, none⟩ = some (.slice A4 n4 c4) ∧ w'.cell? ⟨w5.heap.size, 0, none⟩ = some (.int .i64 m.base) ∧ w'.cell? ⟨w5.heap.size, 1, none⟩ = some (.slice A5 n5 c5) ∧ w'.cell? ⟨w6.heap.size, 0, none⟩ = some (.int .i64 (joinL l m).1.base) ∧ w'.cell? ⟨w6.heap.size, 1, none⟩ = some (.slice A6 n6 c6))
          (first | exact ⟨ff0, ff1, ff2, ff3, ff4, ff5, ff6, ff7, ff8, ff9, ff10, ff11⟩ | go_keep)
          (first
          | (go_at_call_of 18 (Value.agg #[Value.int IntKind.i64 l.base, Value.slice A n c])
             refine (to_lab _ l _ (by first | exact hr.below (below_more bel HC.out) | exact (hr.below (below_more bel HC.out)).alloc _ | exact (hr.below (below_more bel HC.out)).drew | exact ((hr.below (below_more bel HC.out)).alloc _).drew | exact ((hr.below (below_more bel HC.out)).drew).alloc _)).mono ?_
             rintro e wn ⟨vv, rfl, own, hb⟩
             have HC0 := HC.out.size
             first
             | (have HY : Hid (Fresh wn _) := Lib.hid (by first | exact Fresh.new hb | exact Fresh.new (below_dr hb))
                have ne0 : w.heap.size ≠ _ := Nat.ne_of_lt (Nat.lt_of_lt_of_le Pz HC0)
                have nf0 := Ne.symm ne0
                have ne1 : w.heap.size + 1 ≠ _ := Nat.ne_of_lt (Nat.lt_of_lt_of_le Qz HC0)
                have nf1 := Ne.symm ne1
                have ne2 : g3 ≠ _ := Nat.ne_of_lt (Nat.lt_of_lt_of_le BWz HC0)
                have nf2 := Ne.symm ne2
                have ne3 : w4.heap.size ≠ _ := Nat.ne_of_lt (Nat.lt_of_lt_of_le Cz HC0)
                have nf3 := Ne.symm ne3
                have ne4 : w5.heap.size ≠ _ := Nat.ne_of_lt (Nat.lt_of_lt_of_le Dz HC0)
                have nf4 := Ne.symm ne4
                have ne5 : w6.heap.size ≠ _ := Nat.ne_of_lt (Nat.lt_of_lt_of_le BGz HC0)
                have nf5 := Ne.symm ne5
                have HYl := HC0)
             | (have HYb := block_lt_of_cell HY.out.c0
                have HY' := Lib.hid (HY.out.below (by first | exact hb | exact over_alloc hb | exact below_undrew hb | exact over_alloc (below_dr hb) | exact below_undrew (over_alloc hb)))
                clear HY
                have HY := HY'
                clear HY')
             | skip
             try clear hy0 hy1 hq0 hq1
             try (have hy0 := HY.out.c0
                  have hy1 := HY.out.c1
                  have hq0 := HY.out.f0
                  have hq1 := HY.out.f1)
             have HC' : Hid (Below w16.heap.size w16 wn) := Lib.hid (by first | exact below_more HC.out hb | exact below_more HC.out (over_alloc hb) | exact below_more HC.out (below_undrew hb) | exact below_more HC.out (over_alloc (below_dr hb)) | exact below_more HC.out (below_undrew (over_alloc hb)))
             clear HC
             have HC := HC'
             clear HC'
             try clear ff0 ff1 ff2 ff3 ff4 ff5 ff6 ff7 ff8 ff9 ff10 ff11
             have ff0 : wn.cell? ⟨w.heap.size, 0, none⟩ = some (.int .i64 l.base) := (HC.out.cell (by exact Pz)).trans (by exact Pc0)
             have ff1 : wn.cell? ⟨w.heap.size, 1, none⟩ = some (.slice A n c) := (HC.out.cell (by exact Pz)).trans (by exact Pc1)
             have ff2 : wn.cell? ⟨w.heap.size + 1, 0, none⟩ = some (.int .i64 m.base) := (HC.out.cell (by exact Qz)).trans (by exact Qc0)
             have ff3 : wn.cell? ⟨w.heap.size + 1, 1, none⟩ = some (.slice B n' d) := (HC.out.cell (by exact Qz)).trans (by exact Qc1)
             have ff4 : wn.cell? ⟨g3, 0, none⟩ = some (.int .i64 (joinL l m).1.base) := (HC.out.cell (by exact BWz)).trans (by exact BWc0)
             have ff5 : wn.cell? ⟨g3, 1, none⟩ = some (.slice A3 n3 c3) := (HC.out.cell (by exact BWz)).trans (by exact BWc1)
             have ff6 : wn.cell? ⟨w4.heap.size, 0, none⟩ = some (.int .i64 l.base) := (HC.out.cell (by exact Cz)).trans (by exact Cc0)
             have ff7 : wn.cell? ⟨w4.heap.size, 1, none⟩ = some (.slice A4 n4 c4) := (HC.out.cell (by exact Cz)).trans (by exact Cc1)
             have ff8 : wn.cell? ⟨w5.heap.size, 0, none⟩ = some (.int .i64 m.base) := (HC.out.cell (by exact Dz)).trans (by exact Dc0)
             have ff9 : wn.cell? ⟨w5.heap.size, 1, none⟩ = some (.slice A5 n5 c5) := (HC.out.cell (by exact Dz)).trans (by exact Dc1)
             have ff10 : wn.cell? ⟨w6.heap.size, 0, none⟩ = some (.int .i64 (joinL l m).1.base) := (HC.out.cell (by exact BGz)).trans (by exact BGc0)
             have ff11 : wn.cell? ⟨w6.heap.size, 1, none⟩ = some (.slice A6 n6 c6) := (HC.out.cell (by exact BGz)).trans (by exact BGc1)
             try (have R0' := Lib.hid (R0.out.below (by first | exact hb | exact over_alloc hb | exact below_undrew hb | exact over_alloc (below_dr hb) | exact below_undrew (over_alloc hb)))
                  clear R0
                  have R0 := R0'
                  clear R0')
             try (have R1' := Lib.hid (R1.out.below (by first | exact hb | exact over_alloc hb | exact below_undrew hb | exact over_alloc (below_dr hb) | exact below_undrew (over_alloc hb)))
                  clear R1
                  have R1 := R1'
                  clear R1')
             have R0 := Lib.hid own.rd
             obtain ⟨A170, n170, c170, rfl, -, -, -⟩ := own
             clear hb)
          | (go_at_call_of 18 (Value.agg #[Value.int IntKind.i64 m.base, Value.slice B n' d])
             refine (to_lab _ m _ (by first | exact hq.below (below_more bel HC.out) | exact (hq.below (below_more bel HC.out)).alloc _ | exact (hq.below (below_more bel HC.out)).drew | exact ((hq.below (below_more bel HC.out)).alloc _).drew | exact ((hq.below (below_more bel HC.out)).drew).alloc _)).mono ?_
             rintro e wn ⟨vv, rfl, own, hb⟩
             have HC0 := HC.out.size
             first
             | (have HY : Hid (Fresh wn _) := Lib.hid (by first | exact Fresh.new hb | exact Fresh.new (below_dr hb))
                have ne0 : w.heap.size ≠ _ := Nat.ne_of_lt (Nat.lt_of_lt_of_le Pz HC0)
                have nf0 := Ne.symm ne0
                have ne1 : w.heap.size + 1 ≠ _ := Nat.ne_of_lt (Nat.lt_of_lt_of_le Qz HC0)
                have nf1 := Ne.symm ne1
                have ne2 : g3 ≠ _ := Nat.ne_of_lt (Nat.lt_of_lt_of_le BWz HC0)
                have nf2 := Ne.symm ne2
                have ne3 : w4.heap.size ≠ _ := Nat.ne_of_lt (Nat.lt_of_lt_of_le Cz HC0)
                have nf3 := Ne.symm ne3
                have ne4 : w5.heap.size ≠ _ := Nat.ne_of_lt (Nat.lt_of_lt_of_le Dz HC0)
                have nf4 := Ne.symm ne4
                have ne5 : w6.heap.size ≠ _ := Nat.ne_of_lt (Nat.lt_of_lt_of_le BGz HC0)
                have nf5 := Ne.symm ne5
                have HYl := HC0)
             | (have HYb := block_lt_of_cell HY.out.c0
                have HY' := Lib.hid (HY.out.below (by first | exact hb | exact over_alloc hb | exact below_undrew hb | exact over_alloc (below_dr hb) | exact below_undrew (over_alloc hb)))
                clear HY
                have HY := HY'
                clear HY')
             | skip
             try clear hy0 hy1 hq0 hq1
             try (have hy0 := HY.out.c0
                  have hy1 := HY.out.c1
                  have hq0 := HY.out.f0
                  have hq1 := HY.out.f1)
             have HC' : Hid (Below w16.heap.size w16 wn) := Lib.hid (by first | exact below_more HC.out hb | exact below_more HC.out (over_alloc hb) | exact below_more HC.out (below_undrew hb) | exact below_more HC.out (over_alloc (below_dr hb)) | exact below_more HC.out (below_undrew (over_alloc hb)))
             clear HC
             have HC := HC'
             clear HC'
             try clear ff0 ff1 ff2 ff3 ff4 ff5 ff6 ff7 ff8 ff9 ff10 ff11
             have ff0 : wn.cell? ⟨w.heap.size, 0, none⟩ = some (.int .i64 l.base) := (HC.out.cell (by exact Pz)).trans (by exact Pc0)
             have ff1 : wn.cell? ⟨w.heap.size, 1, none⟩ = some (.slice A n c) := (HC.out.cell (by exact Pz)).trans (by exact Pc1)
             have ff2 : wn.cell? ⟨w.heap.size + 1, 0, none⟩ = some (.int .i64 m.base) := (HC.out.cell (by exact Qz)).trans (by exact Qc0)
             have ff3 : wn.cell? ⟨w.heap.size + 1, 1, none⟩ = some (.slice B n' d) := (HC.out.cell (by exact Qz)).trans (by exact Qc1)
             have ff4 : wn.cell? ⟨g3, 0, none⟩ = some (.int .i64 (joinL l m).1.base) := (HC.out.cell (by exact BWz)).trans (by exact BWc0)
             have ff5 : wn.cell? ⟨g3, 1, none⟩ = some (.slice A3 n3 c3) := (HC.out.cell (by exact BWz)).trans (by exact BWc1)
             have ff6 : wn.cell? ⟨w4.heap.size, 0, none⟩ = some (.int .i64 l.base) := (HC.out.cell (by exact Cz)).trans (by exact Cc0)
             have ff7 : wn.cell? ⟨w4.heap.size, 1, none⟩ = some (.slice A4 n4 c4) := (HC.out.cell (by exact Cz)).trans (by exact Cc1)
             have ff8 : wn.cell? ⟨w5.heap.size, 0, none⟩ = some (.int .i64 m.base) := (HC.out.cell (by exact Dz)).trans (by exact Dc0)
             have ff9 : wn.cell? ⟨w5.heap.size, 1, none⟩ = some (.slice A5 n5 c5) := (HC.out.cell (by exact Dz)).trans (by exact Dc1)
             have ff10 : wn.cell? ⟨w6.heap.size, 0, none⟩ = some (.int .i64 (joinL l m).1.base) := (HC.out.cell (by exact BGz)).trans (by exact BGc0)
             have ff11 : wn.cell? ⟨w6.heap.size, 1, none⟩ = some (.slice A6 n6 c6) := (HC.out.cell (by exact BGz)).trans (by exact BGc1)
             try (have R0' := Lib.hid (R0.out.below (by first | exact hb | exact over_alloc hb | exact below_undrew hb | exact over_alloc (below_dr hb) | exact below_undrew (over_alloc hb)))
                  clear R0
                  have R0 := R0'
                  clear R0')
             try (have R1' := Lib.hid (R1.out.below (by first | exact hb | exact over_alloc hb | exact below_undrew hb | exact over_alloc (below_dr hb) | exact below_undrew (over_alloc hb)))
                  clear R1
                  have R1 := R1'
                  clear R1')
             have R1 := Lib.hid own.rd
             obtain ⟨A171, n171, c171, rfl, -, -, -⟩ := own
             clear hb)
          | (go_at_call 10
             refine (impl_join _ _ l m _ R0.out R1.out).mono ?_
             rintro e wn ⟨vv, rfl, own, hb⟩
             have HC0 := HC.out.size
             first
             | (have HY : Hid (Fresh wn _) := Lib.hid (by first | exact Fresh.new hb | exact Fresh.new (below_dr hb))
                have ne0 : w.heap.size ≠ _ := Nat.ne_of_lt (Nat.lt_of_lt_of_le Pz HC0)
                have nf0 := Ne.symm ne0
                have ne1 : w.heap.size + 1 ≠ _ := Nat.ne_of_lt (Nat.lt_of_lt_of_le Qz HC0)
                have nf1 := Ne.symm ne1
                have ne2 : g3 ≠ _ := Nat.ne_of_lt (Nat.lt_of_lt_of_le BWz HC0)
                have nf2 := Ne.symm ne2
                have ne3 : w4.heap.size ≠ _ := Nat.ne_of_lt (Nat.lt_of_lt_of_le Cz HC0)
                have nf3 := Ne.symm ne3
                have ne4 : w5.heap.size ≠ _ := Nat.ne_of_lt (Nat.lt_of_lt_of_le Dz HC0)
                have nf4 := Ne.symm ne4
                have ne5 : w6.heap.size ≠ _ := Nat.ne_of_lt (Nat.lt_of_lt_of_le BGz HC0)
                have nf5 := Ne.symm ne5
                have HYl := HC0)
             | (have HYb := block_lt_of_cell HY.out.c0
                have HY' := Lib.hid (HY.out.below (by first | exact hb | exact over_alloc hb | exact below_undrew hb | exact over_alloc (below_dr hb) | exact below_undrew (over_alloc hb)))
                clear HY
                have HY := HY'
                clear HY')
             | skip
             try clear hy0 hy1 hq0 hq1
             try (have hy0 := HY.out.c0
                  have hy1 := HY.out.c1
                  have hq0 := HY.out.f0
                  have hq1 := HY.out.f1)
             have HC' : Hid (Below w16.heap.size w16 wn) := Lib.hid (by first | exact below_more HC.out hb | exact below_more HC.out (over_alloc hb) | exact below_more HC.out (below_undrew hb) | exact below_more HC.out (over_alloc (below_dr hb)) | exact below_more HC.out (below_undrew (over_alloc hb)))
             clear HC
             have HC := HC'
             clear HC'
             try clear ff0 ff1 ff2 ff3 ff4 ff5 ff6 ff7 ff8 ff9 ff10 ff11
             have ff0 : wn.cell? ⟨w.heap.size, 0, none⟩ = some (.int .i64 l.base) := (HC.out.cell (by exact Pz)).trans (by exact Pc0)
             have ff1 : wn.cell? ⟨w.heap.size, 1, none⟩ = some (.slice A n c) := (HC.out.cell (by exact Pz)).trans (by exact Pc1)
             have ff2 : wn.cell? ⟨w.heap.size + 1, 0, none⟩ = some (.int .i64 m.base) := (HC.out.cell (by exact Qz)).trans (by exact Qc0)
             have ff3 : wn.cell? ⟨w.heap.size + 1, 1, none⟩ = some (.slice B n' d) := (HC.out.cell (by exact Qz)).trans (by exact Qc1)
             have ff4 : wn.cell? ⟨g3, 0, none⟩ = some (.int .i64 (joinL l m).1.base) := (HC.out.cell (by exact BWz)).trans (by exact BWc0)
             have ff5 : wn.cell? ⟨g3, 1, none⟩ = some (.slice A3 n3 c3) := (HC.out.cell (by exact BWz)).trans (by exact BWc1)
             have ff6 : wn.cell? ⟨w4.heap.size, 0, none⟩ = some (.int .i64 l.base) := (HC.out.cell (by exact Cz)).trans (by exact Cc0)
             have ff7 : wn.cell? ⟨w4.heap.size, 1, none⟩ = some (.slice A4 n4 c4) := (HC.out.cell (by exact Cz)).trans (by exact Cc1)
             have ff8 : wn.cell? ⟨w5.heap.size, 0, none⟩ = some (.int .i64 m.base) := (HC.out.cell (by exact Dz)).trans (by exact Dc0)
             have ff9 : wn.cell? ⟨w5.heap.size, 1, none⟩ = some (.slice A5 n5 c5) := (HC.out.cell (by exact Dz)).trans (by exact Dc1)
             have ff10 : wn.cell? ⟨w6.heap.size, 0, none⟩ = some (.int .i64 (joinL l m).1.base) := (HC.out.cell (by exact BGz)).trans (by exact BGc0)
             have ff11 : wn.cell? ⟨w6.heap.size, 1, none⟩ = some (.slice A6 n6 c6) := (HC.out.cell (by exact BGz)).trans (by exact BGc1)
             try (have R0' := Lib.hid (R0.out.below (by first | exact hb | exact over_alloc hb | exact below_undrew hb | exact over_alloc (below_dr hb) | exact below_undrew (over_alloc hb)))
                  clear R0
                  have R0 := R0'
                  clear R0')
             try (have R1' := Lib.hid (R1.out.below (by first | exact hb | exact over_alloc hb | exact below_undrew hb | exact over_alloc (below_dr hb) | exact below_undrew (over_alloc hb)))
                  clear R1
                  have R1 := R1'
                  clear R1')
             have HOs := HC0
             have OW := Lib.hid own
             obtain ⟨A17, n17, c17, rfl, -, -, -⟩ := own
             clear hb)
          | (go_at_call 10
             refine (impl_join _ _ l m _ (R0.out.alloc _) (R1.out.alloc _)).mono ?_
             rintro e wn ⟨vv, rfl, own, hb⟩
             have HC0 := HC.out.size
             first
             | (have HY : Hid (Fresh wn _) := Lib.hid (by first | exact Fresh.new hb | exact Fresh.new (below_dr hb))
                have ne0 : w.heap.size ≠ _ := Nat.ne_of_lt (Nat.lt_of_lt_of_le Pz HC0)
                have nf0 := Ne.symm ne0
                have ne1 : w.heap.size + 1 ≠ _ := Nat.ne_of_lt (Nat.lt_of_lt_of_le Qz HC0)
                have nf1 := Ne.symm ne1
                have ne2 : g3 ≠ _ := Nat.ne_of_lt (Nat.lt_of_lt_of_le BWz HC0)
                have nf2 := Ne.symm ne2
                have ne3 : w4.heap.size ≠ _ := Nat.ne_of_lt (Nat.lt_of_lt_of_le Cz HC0)
                have nf3 := Ne.symm ne3
                have ne4 : w5.heap.size ≠ _ := Nat.ne_of_lt (Nat.lt_of_lt_of_le Dz HC0)
                have nf4 := Ne.symm ne4
                have ne5 : w6.heap.size ≠ _ := Nat.ne_of_lt (Nat.lt_of_lt_of_le BGz HC0)
                have nf5 := Ne.symm ne5
                have HYl := HC0)
             | (have HYb := block_lt_of_cell HY.out.c0
                have HY' := Lib.hid (HY.out.below (by first | exact hb | exact over_alloc hb | exact below_undrew hb | exact over_alloc (below_dr hb) | exact below_undrew (over_alloc hb)))
                clear HY
                have HY := HY'
                clear HY')
             | skip
             try clear hy0 hy1 hq0 hq1
             try (have hy0 := HY.out.c0
                  have hy1 := HY.out.c1
                  have hq0 := HY.out.f0
                  have hq1 := HY.out.f1)
             have HC' : Hid (Below w16.heap.size w16 wn) := Lib.hid (by first | exact below_more HC.out hb | exact below_more HC.out (over_alloc hb) | exact below_more HC.out (below_undrew hb) | exact below_more HC.out (over_alloc (below_dr hb)) | exact below_more HC.out (below_undrew (over_alloc hb)))
             clear HC
             have HC := HC'
             clear HC'
             try clear ff0 ff1 ff2 ff3 ff4 ff5 ff6 ff7 ff8 ff9 ff10 ff11
             have ff0 : wn.cell? ⟨w.heap.size, 0, none⟩ = some (.int .i64 l.base) := (HC.out.cell (by exact Pz)).trans (by exact Pc0)
             have ff1 : wn.cell? ⟨w.heap.size, 1, none⟩ = some (.slice A n c) := (HC.out.cell (by exact Pz)).trans (by exact Pc1)
             have ff2 : wn.cell? ⟨w.heap.size + 1, 0, none⟩ = some (.int .i64 m.base) := (HC.out.cell (by exact Qz)).trans (by exact Qc0)
             have ff3 : wn.cell? ⟨w.heap.size + 1, 1, none⟩ = some (.slice B n' d) := (HC.out.cell (by exact Qz)).trans (by exact Qc1)
             have ff4 : wn.cell? ⟨g3, 0, none⟩ = some (.int .i64 (joinL l m).1.base) := (HC.out.cell (by exact BWz)).trans (by exact BWc0)
             have ff5 : wn.cell? ⟨g3, 1, none⟩ = some (.slice A3 n3 c3) := (HC.out.cell (by exact BWz)).trans (by exact BWc1)
             have ff6 : wn.cell? ⟨w4.heap.size, 0, none⟩ = some (.int .i64 l.base) := (HC.out.cell (by exact Cz)).trans (by exact Cc0)
             have ff7 : wn.cell? ⟨w4.heap.size, 1, none⟩ = some (.slice A4 n4 c4) := (HC.out.cell (by exact Cz)).trans (by exact Cc1)
             have ff8 : wn.cell? ⟨w5.heap.size, 0, none⟩ = some (.int .i64 m.base) := (HC.out.cell (by exact Dz)).trans (by exact Dc0)
             have ff9 : wn.cell? ⟨w5.heap.size, 1, none⟩ = some (.slice A5 n5 c5) := (HC.out.cell (by exact Dz)).trans (by exact Dc1)
             have ff10 : wn.cell? ⟨w6.heap.size, 0, none⟩ = some (.int .i64 (joinL l m).1.base) := (HC.out.cell (by exact BGz)).trans (by exact BGc0)
             have ff11 : wn.cell? ⟨w6.heap.size, 1, none⟩ = some (.slice A6 n6 c6) := (HC.out.cell (by exact BGz)).trans (by exact BGc1)
             try (have R0' := Lib.hid (R0.out.below (by first | exact hb | exact over_alloc hb | exact below_undrew hb | exact over_alloc (below_dr hb) | exact below_undrew (over_alloc hb)))
                  clear R0
                  have R0 := R0'
                  clear R0')
             try (have R1' := Lib.hid (R1.out.below (by first | exact hb | exact over_alloc hb | exact below_undrew hb | exact over_alloc (below_dr hb) | exact below_undrew (over_alloc hb)))
                  clear R1
                  have R1 := R1'
                  clear R1')
             have HOs := HC0
             have OW := Lib.hid own
             obtain ⟨A17, n17, c17, rfl, -, -, -⟩ := own
             clear hb))
        all_goals
          go_wp2_with fail
          go_meet
          first
          | exact Boxed.laid HC.out OW.out HOs
          | exact Boxed.stored HC.out HYl HY.out OW.out (by first | exact HYb | (simp; done) | omega)
      obtain ⟨g17, A17, n17, c17, rfl, rfl, hb, hgo, u0, u1, own⟩ := hcut
      obtain ⟨w17, hw17⟩ : ∃ w17, w17 = wc := ⟨_, rfl⟩
      rw [← hw17] at hb u0 u1 own ⊢
      clear hw17 HC
      have H0r : Hid (∀ k, (labRow (.agg #[.int .i64 (joinL l m).1.base, .slice A17 n17 c17])).ownBlock = some k → w16.heap.size ≤ k ∧ k < w17.heap.size) := Lib.hid (fun k hk => own.row k hk)
      have sz17 : w16.heap.size ≤ w17.heap.size := by have := hb.size; simpa using this
      have Pc0' : w17.cell? ⟨w.heap.size, 0, none⟩ = some (.int .i64 l.base) := (hb.cell (by simp; omega)).trans (by first | exact Pc0 | (simp [go_sem, Pz, Pc0]; done))
      have Pc1' : w17.cell? ⟨w.heap.size, 1, none⟩ = some (.slice A n c) := (hb.cell (by simp; omega)).trans (by first | exact Pc1 | (simp [go_sem, Pz, Pc1]; done))
      have Qc0' : w17.cell? ⟨w.heap.size + 1, 0, none⟩ = some (.int .i64 m.base) := (hb.cell (by simp; omega)).trans (by first | exact Qc0 | (simp [go_sem, Qz, Qc0]; done))
      have Qc1' : w17.cell? ⟨w.heap.size + 1, 1, none⟩ = some (.slice B n' d) := (hb.cell (by simp; omega)).trans (by first | exact Qc1 | (simp [go_sem, Qz, Qc1]; done))
      have BWc0' : w17.cell? ⟨g3, 0, none⟩ = some (.int .i64 (joinL l m).1.base) := (hb.cell (by simp; omega)).trans (by first | exact BWc0 | (simp [go_sem, BWz, BWc0]; done))
      have BWc1' : w17.cell? ⟨g3, 1, none⟩ = some (.slice A3 n3 c3) := (hb.cell (by simp; omega)).trans (by first | exact BWc1 | (simp [go_sem, BWz, BWc1]; done))
      have Cc0' : w17.cell? ⟨w4.heap.size, 0, none⟩ = some (.int .i64 l.base) := (hb.cell (by simp; omega)).trans (by first | exact Cc0 | (simp [go_sem, Cz, Cc0]; done))
      have Cc1' : w17.cell? ⟨w4.heap.size, 1, none⟩ = some (.slice A4 n4 c4) := (hb.cell (by simp; omega)).trans (by first | exact Cc1 | (simp [go_sem, Cz, Cc1]; done))
      have Dc0' : w17.cell? ⟨w5.heap.size, 0, none⟩ = some (.int .i64 m.base) := (hb.cell (by simp; omega)).trans (by first | exact Dc0 | (simp [go_sem, Dz, Dc0]; done))
      have Dc1' : w17.cell? ⟨w5.heap.size, 1, none⟩ = some (.slice A5 n5 c5) := (hb.cell (by simp; omega)).trans (by first | exact Dc1 | (simp [go_sem, Dz, Dc1]; done))
      have BGc0' : w17.cell? ⟨w6.heap.size, 0, none⟩ = some (.int .i64 (joinL l m).1.base) := (hb.cell (by simp; omega)).trans (by first | exact BGc0 | (simp [go_sem, BGz, BGc0]; done))
      have BGc1' : w17.cell? ⟨w6.heap.size, 1, none⟩ = some (.slice A6 n6 c6) := (hb.cell (by simp; omega)).trans (by first | exact BGc1 | (simp [go_sem, BGz, BGc1]; done))
      clear Pc0 Pc1 Qc0 Qc1 BWc0 BWc1 Cc0 Cc1 Dc0 Dc1 BGc0 BGc1 Pz Qz BWz Cz Dz BGz
      have Pc0 := Pc0'
      have Pc1 := Pc1'
      have Pz := block_lt_of_cell Pc0
      have Qc0 := Qc0'
      have Qc1 := Qc1'
      have Qz := block_lt_of_cell Qc0
      have BWc0 := BWc0'
      have BWc1 := BWc1'
      have BWz := block_lt_of_cell BWc0
      have Cc0 := Cc0'
      have Cc1 := Cc1'
      have Cz := block_lt_of_cell Cc0
      have Dc0 := Dc0'
      have Dc1 := Dc1'
      have Dz := block_lt_of_cell Dc0
      have BGc0 := BGc0'
      have BGc1 := BGc1'
      have BGz := block_lt_of_cell BGc0
      clear Pc0' Pc1' Qc0' Qc1' BWc0' BWc1' Cc0' Cc1' Dc0' Dc1' BGc0' BGc1'
      have W0' := Lib.hid (by first | exact W0.out.below hb | exact W0.out.over hb | exact W0.out.below (below_undrew hb))
      clear W0
      have W0 := W0'
      clear W0'
      have G0' := Lib.hid (by first | exact G0.out.below hb | exact G0.out.over hb | exact G0.out.below (below_undrew hb))
      clear G0
      have G0 := G0'
      clear G0'
      have bel' : Below w.heap.size w w17 := bel.trans ((by first | exact hb | exact over_alloc hb | exact below_undrew hb : Below w16.heap.size w16 w17).mono bel.size)
      clear bel hb
      have bel := bel'
      clear bel'
      have H0 := Lib.hid own
      clear own hgo
      have BHc0 := u0
      have BHc1 := u1
      have BHz := block_lt_of_cell u0
      have hgu17 := block_lt_of_cell u0
      clear u0 u1
      go_wp2_with fail
      refine (eq_lab _ _ (joinL l m).1 (joinL l m).1 _ (by first | exact H0.out.rd | exact H0.out.rd.alloc _) (by first | exact W0.out.rd | exact W0.out.rd.alloc _)).mono ?_
      rintro e w18 ⟨rfl, hb⟩
      have sz18 : w17.heap.size ≤ w18.heap.size := by have := hb.size; simpa using this
      have Pc0' : w18.cell? ⟨w.heap.size, 0, none⟩ = some (.int .i64 l.base) := (hb.cell (by simp; omega)).trans (by first | exact Pc0 | (simp [go_sem, Pz, Pc0]; done))
      have Pc1' : w18.cell? ⟨w.heap.size, 1, none⟩ = some (.slice A n c) := (hb.cell (by simp; omega)).trans (by first | exact Pc1 | (simp [go_sem, Pz, Pc1]; done))
      have Qc0' : w18.cell? ⟨w.heap.size + 1, 0, none⟩ = some (.int .i64 m.base) := (hb.cell (by simp; omega)).trans (by first | exact Qc0 | (simp [go_sem, Qz, Qc0]; done))
      have Qc1' : w18.cell? ⟨w.heap.size + 1, 1, none⟩ = some (.slice B n' d) := (hb.cell (by simp; omega)).trans (by first | exact Qc1 | (simp [go_sem, Qz, Qc1]; done))
      have BWc0' : w18.cell? ⟨g3, 0, none⟩ = some (.int .i64 (joinL l m).1.base) := (hb.cell (by simp; omega)).trans (by first | exact BWc0 | (simp [go_sem, BWz, BWc0]; done))
      have BWc1' : w18.cell? ⟨g3, 1, none⟩ = some (.slice A3 n3 c3) := (hb.cell (by simp; omega)).trans (by first | exact BWc1 | (simp [go_sem, BWz, BWc1]; done))
      have Cc0' : w18.cell? ⟨w4.heap.size, 0, none⟩ = some (.int .i64 l.base) := (hb.cell (by simp; omega)).trans (by first | exact Cc0 | (simp [go_sem, Cz, Cc0]; done))
      have Cc1' : w18.cell? ⟨w4.heap.size, 1, none⟩ = some (.slice A4 n4 c4) := (hb.cell (by simp; omega)).trans (by first | exact Cc1 | (simp [go_sem, Cz, Cc1]; done))
      have Dc0' : w18.cell? ⟨w5.heap.size, 0, none⟩ = some (.int .i64 m.base) := (hb.cell (by simp; omega)).trans (by first | exact Dc0 | (simp [go_sem, Dz, Dc0]; done))
      have Dc1' : w18.cell? ⟨w5.heap.size, 1, none⟩ = some (.slice A5 n5 c5) := (hb.cell (by simp; omega)).trans (by first | exact Dc1 | (simp [go_sem, Dz, Dc1]; done))
      have BGc0' : w18.cell? ⟨w6.heap.size, 0, none⟩ = some (.int .i64 (joinL l m).1.base) := (hb.cell (by simp; omega)).trans (by first | exact BGc0 | (simp [go_sem, BGz, BGc0]; done))
      have BGc1' : w18.cell? ⟨w6.heap.size, 1, none⟩ = some (.slice A6 n6 c6) := (hb.cell (by simp; omega)).trans (by first | exact BGc1 | (simp [go_sem, BGz, BGc1]; done))
      have BHc0' : w18.cell? ⟨g17, 0, none⟩ = some (.int .i64 (joinL l m).1.base) := (hb.cell (by simp; omega)).trans (by first | exact BHc0 | (simp [go_sem, BHz, BHc0]; done))
      have BHc1' : w18.cell? ⟨g17, 1, none⟩ = some (.slice A17 n17 c17) := (hb.cell (by simp; omega)).trans (by first | exact BHc1 | (simp [go_sem, BHz, BHc1]; done))
      clear Pc0 Pc1 Qc0 Qc1 BWc0 BWc1 Cc0 Cc1 Dc0 Dc1 BGc0 BGc1 BHc0 BHc1 Pz Qz BWz Cz Dz BGz BHz
      have Pc0 := Pc0'
      have Pc1 := Pc1'
      have Pz := block_lt_of_cell Pc0
      have Qc0 := Qc0'
      have Qc1 := Qc1'
      have Qz := block_lt_of_cell Qc0
      have BWc0 := BWc0'
      have BWc1 := BWc1'
      have BWz := block_lt_of_cell BWc0
      have Cc0 := Cc0'
      have Cc1 := Cc1'
      have Cz := block_lt_of_cell Cc0
      have Dc0 := Dc0'
      have Dc1 := Dc1'
      have Dz := block_lt_of_cell Dc0
      have BGc0 := BGc0'
      have BGc1 := BGc1'
      have BGz := block_lt_of_cell BGc0
      have BHc0 := BHc0'
      have BHc1 := BHc1'
      have BHz := block_lt_of_cell BHc0
      clear Pc0' Pc1' Qc0' Qc1' BWc0' BWc1' Cc0' Cc1' Dc0' Dc1' BGc0' BGc1' BHc0' BHc1'
      have W0' := Lib.hid (by first | exact W0.out.below hb | exact W0.out.over hb | exact W0.out.below (below_undrew hb))
      clear W0
      have W0 := W0'
      clear W0'
      have G0' := Lib.hid (by first | exact G0.out.below hb | exact G0.out.over hb | exact G0.out.below (below_undrew hb))
      clear G0
      have G0 := G0'
      clear G0'
      have H0' := Lib.hid (by first | exact H0.out.below hb | exact H0.out.over hb | exact H0.out.below (below_undrew hb))
      clear H0
      have H0 := H0'
      clear H0'
      have bel' : Below w.heap.size w w18 := bel.trans ((by first | exact hb | exact over_alloc hb | exact below_undrew hb : Below w17.heap.size w17 w18).mono bel.size)
      clear bel hb
      have bel := bel'
      clear bel'
      go_wp2_with fail
      refine (held_lab _ (joinL l m).1 1 _ (by omega) (by omega) G0.out.rd).mono ?_
      rintro e w19 ⟨rfl, hb⟩
      have sz19 : w18.heap.size ≤ w19.heap.size := by have := hb.size; simpa using this
      have Pc0' : w19.cell? ⟨w.heap.size, 0, none⟩ = some (.int .i64 l.base) := (hb.cell (by simp; omega)).trans (by first | exact Pc0 | (simp [go_sem, Pz, Pc0]; done))
      have Pc1' : w19.cell? ⟨w.heap.size, 1, none⟩ = some (.slice A n c) := (hb.cell (by simp; omega)).trans (by first | exact Pc1 | (simp [go_sem, Pz, Pc1]; done))
      have Qc0' : w19.cell? ⟨w.heap.size + 1, 0, none⟩ = some (.int .i64 m.base) := (hb.cell (by simp; omega)).trans (by first | exact Qc0 | (simp [go_sem, Qz, Qc0]; done))
      have Qc1' : w19.cell? ⟨w.heap.size + 1, 1, none⟩ = some (.slice B n' d) := (hb.cell (by simp; omega)).trans (by first | exact Qc1 | (simp [go_sem, Qz, Qc1]; done))
      have BWc0' : w19.cell? ⟨g3, 0, none⟩ = some (.int .i64 (joinL l m).1.base) := (hb.cell (by simp; omega)).trans (by first | exact BWc0 | (simp [go_sem, BWz, BWc0]; done))
      have BWc1' : w19.cell? ⟨g3, 1, none⟩ = some (.slice A3 n3 c3) := (hb.cell (by simp; omega)).trans (by first | exact BWc1 | (simp [go_sem, BWz, BWc1]; done))
      have Cc0' : w19.cell? ⟨w4.heap.size, 0, none⟩ = some (.int .i64 l.base) := (hb.cell (by simp; omega)).trans (by first | exact Cc0 | (simp [go_sem, Cz, Cc0]; done))
      have Cc1' : w19.cell? ⟨w4.heap.size, 1, none⟩ = some (.slice A4 n4 c4) := (hb.cell (by simp; omega)).trans (by first | exact Cc1 | (simp [go_sem, Cz, Cc1]; done))
      have Dc0' : w19.cell? ⟨w5.heap.size, 0, none⟩ = some (.int .i64 m.base) := (hb.cell (by simp; omega)).trans (by first | exact Dc0 | (simp [go_sem, Dz, Dc0]; done))
      have Dc1' : w19.cell? ⟨w5.heap.size, 1, none⟩ = some (.slice A5 n5 c5) := (hb.cell (by simp; omega)).trans (by first | exact Dc1 | (simp [go_sem, Dz, Dc1]; done))
      have BGc0' : w19.cell? ⟨w6.heap.size, 0, none⟩ = some (.int .i64 (joinL l m).1.base) := (hb.cell (by simp; omega)).trans (by first | exact BGc0 | (simp [go_sem, BGz, BGc0]; done))
      have BGc1' : w19.cell? ⟨w6.heap.size, 1, none⟩ = some (.slice A6 n6 c6) := (hb.cell (by simp; omega)).trans (by first | exact BGc1 | (simp [go_sem, BGz, BGc1]; done))
      have BHc0' : w19.cell? ⟨g17, 0, none⟩ = some (.int .i64 (joinL l m).1.base) := (hb.cell (by simp; omega)).trans (by first | exact BHc0 | (simp [go_sem, BHz, BHc0]; done))
      have BHc1' : w19.cell? ⟨g17, 1, none⟩ = some (.slice A17 n17 c17) := (hb.cell (by simp; omega)).trans (by first | exact BHc1 | (simp [go_sem, BHz, BHc1]; done))
      clear Pc0 Pc1 Qc0 Qc1 BWc0 BWc1 Cc0 Cc1 Dc0 Dc1 BGc0 BGc1 BHc0 BHc1 Pz Qz BWz Cz Dz BGz BHz
      have Pc0 := Pc0'
      have Pc1 := Pc1'
      have Pz := block_lt_of_cell Pc0
      have Qc0 := Qc0'
      have Qc1 := Qc1'
      have Qz := block_lt_of_cell Qc0
      have BWc0 := BWc0'
      have BWc1 := BWc1'
      have BWz := block_lt_of_cell BWc0
      have Cc0 := Cc0'
      have Cc1 := Cc1'
      have Cz := block_lt_of_cell Cc0
      have Dc0 := Dc0'
      have Dc1 := Dc1'
      have Dz := block_lt_of_cell Dc0
      have BGc0 := BGc0'
      have BGc1 := BGc1'
      have BGz := block_lt_of_cell BGc0
      have BHc0 := BHc0'
      have BHc1 := BHc1'
      have BHz := block_lt_of_cell BHc0
      clear Pc0' Pc1' Qc0' Qc1' BWc0' BWc1' Cc0' Cc1' Dc0' Dc1' BGc0' BGc1' BHc0' BHc1'
      have W0' := Lib.hid (by first | exact W0.out.below hb | exact W0.out.over hb | exact W0.out.below (below_undrew hb))
      clear W0
      have W0 := W0'
      clear W0'
      have G0' := Lib.hid (by first | exact G0.out.below hb | exact G0.out.over hb | exact G0.out.below (below_undrew hb))
      clear G0
      have G0 := G0'
      clear G0'
      have H0' := Lib.hid (by first | exact H0.out.below hb | exact H0.out.over hb | exact H0.out.below (below_undrew hb))
      clear H0
      have H0 := H0'
      clear H0'
      have bel' : Below w.heap.size w w19 := bel.trans ((by first | exact hb | exact over_alloc hb | exact below_undrew hb : Below w18.heap.size w18 w19).mono bel.size)
      clear bel hb
      have bel := bel'
      clear bel'
      go_wp2
      go_ret
      exact ⟨rfl, bel⟩
    · clear hn0 g0 hn1 g1
      go_enter Try.func5, Try.ntmps5
      have hge : ¬ (1048576 : Int) - n < 0 := by omega
      go_wp2_with fail
      refine (sz_lab_yes A n c l.base 1048576 _ (by omega) (by omega) (by omega)).mono ?_
      rintro e w1 ⟨rfl, hb⟩
      obtain ⟨⟨Pc0, Pc1⟩, ⟨Qc0, Qc1⟩, Qz, bel⟩ := box4 hb
      clear hb
      go_wp2_with fail
      refine (sz_lab_no B n' d m.base (1048576 - n) _ (by omega) (by omega) (by omega) (by omega)).mono ?_
      rintro e w3 ⟨rfl, hb⟩
      go_wp2
      go_ret
      exact ⟨rfl, below_more bel hb⟩
  · clear hn0 g0 hn1 g1
    go_enter Try.func5, Try.ntmps5
    go_wp2_with fail
    refine (sz_lab_no _ _ _ _ _ _ (by omega) (by omega) (by omega) (by omega)).mono ?_
    rintro e w1 ⟨rfl, hb⟩
    go_wp2
    go_ret
    exact ⟨rfl, (box4 hb).2.2.2⟩

set_option maxRecDepth 100000 in
theorem lifted (os : Os) (started : os.Started) (H : Type) (enc : TypeId × Value → H) :
    ReturnsInHanded {} Try.checked os 5 .any (Rows.fnExactJoinSpec.pre6 enc Try.prog Try.f5 Rows.fnExactJoinRow.domain false) (Rows.fnExactJoinSpec.post enc Try.prog Try.f5 false true false false) := by
  refine returnsInHanded_of_change (C := Try.checked) own started (by kernel_rfl) Try.func5
    (ChangeSpec.witness6 (enc := enc) (C := Try.checked) false ⟨#[], #[.agg #[.int .i64 0, .slice none 0 0], .agg #[.int .i64 0, .slice none 0 0]], []⟩ 8 (by kernel_rfl) (by kernel_rfl) (by kernel_rfl) (by kernel_rfl)) ?_
  intro W base args ds gs before hval0 hW hcnd _
  have hval : ∀ (j : Nat) t v, Try.f5.params[j]? = some t → args[j]? = some v → Value.okWide Try.prog W .any base t v := hval0
  have hW' := hW
  obtain ⟨p, q, hA0, hV, rfl, hfz, hnd⟩ := hW
  have hA : DataW.TrodAll enc Try.prog W 0 (fun _ => true) true Try.f5.params.toList args.toList ds p := hA0
  rw [Try.params5] at hA hval
  obtain ⟨v0, vs0, d0, ds0, p0, q0, hargs, rfl, rfl, h0, r0⟩ := trodAll_cons hA
  obtain ⟨v1, vs1, d1, ds1, p1, q1, rfl, rfl, rfl, h1, r1⟩ := trodAll_cons r0
  obtain ⟨rfl, rfl, rfl⟩ := trodAll_nil r1
  obtain rfl : args = #[v0, v1] := by cases args; simp_all
  obtain ⟨rfl, rfl⟩ := trodVars_none hV
  have k0 := h0
  have lt0 : ∀ x ∈ p0, x.block < W.heap.size := by obtain ⟨m, hm⟩ := k0; exact DataW.trod_lt m _ _ _ hm
  have k1 := h1
  have lt1 : ∀ x ∈ p1, x.block < W.heap.size := by obtain ⟨m, hm⟩ := k1; exact DataW.trod_lt m _ _ _ hm
  obtain ⟨l0, hl0⟩ := open_lab (hval 0 34 v0 rfl rfl) h0
  obtain ⟨l1, hl1⟩ := open_lab (hval 1 34 v1 rfl rfl) h1
  clear hA0 hval0
  refine (walk v0 l0 hl0 v1 l1 hl1 (w := W)).mono fun e W' ⟨he, bel⟩ => ?_
  subst he
  exact ⟨_, rfl, _, _, _, [], _, [], hW', (trodAll_cons_mk (shut_bool Try.underlying4 _) trodAll_mk0), (trodAll_cons_mk (Below.trod laidOut (by kernel_rfl) (of_decide_eq_true (by kernel_rfl)) k0 bel lt0) (trodAll_cons_mk (Below.trod laidOut (by kernel_rfl) (of_decide_eq_true (by kernel_rfl)) k1 bel lt1) trodAll_mk0)), rfl, bel.frame _, fun h => by cases h⟩

theorem said : Rows.FnExactJoinSaid :=
  OpenClaim.holds_of_wide 5 Try.f5 rfl rfl rfl rfl rfl rfl rfl ⟨rfl, rfl, rfl, rfl, rfl⟩ rfl rfl rfl rfl rfl (by kernel_rfl) Try.func5 (by kernel_rfl)
    (of_decide_eq_true (by kernel_rfl)) (by unfold Func.isWrapper; first | (rw [if_pos (by decide +kernel)]; kernel_rfl) | (rw [if_neg (by decide +kernel)]; exact ⟨rfl, rfl⟩))
    (fun os started H enc _ => lifted os started H enc)

theorem proved : Rows.FnExactJoinSaid := said
#print axioms proved
end Go.Proofs.Ytoaglephpkmaeaa.fnExactJoin
