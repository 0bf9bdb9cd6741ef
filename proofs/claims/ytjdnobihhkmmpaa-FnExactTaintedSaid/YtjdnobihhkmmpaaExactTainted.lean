/-
  FnExactTainted: whatever the input, the law returns true and its arguments read as they did; no condition.
-/
import Derived.Test.YtjdnobihhkmmpaaBase
import Derived.Test.YtjdnobihhkmmpaaRows
import Derived.Test.YtjdnobihhkmmpaaOpen
import Derived.Test.YtjdnobihhkmmpaaHas
import Derived.Test.YtjdnobihhkmmpaaSpecTaint
import Derived.Test.YtjdnobihhkmmpaaImplTaint
namespace Go.Proofs.Ytjdnobihhkmmpaa.fnExactTainted
set_option maxRecDepth 100000
open Go.ChangeShapes Go.WideShapes Go.ChangeAt Go.RowKit
open Go.ChangeMaps (open_string shut_string)
set_option linter.unusedVariables false

set_option maxHeartbeats 8000000 in
theorem walk {w : World} (v0 : Value) (l : Lab) (h0 : ArgLab w v0 l) (v1 : Value) (m : Lab) (h1 : ArgLab w v1 m) (v2 : Value) (o : Lab) (h2 : ArgLab w v2 o) :
    Calls Try.prog 5 #[v0, v1, v2] w fun e w' => e = .returned (.bool true) ∧ Below w.heap.size w w' := by
  have g0 := h0
  obtain ⟨A, n, c, rfl, hn0, hc0, hm0, -⟩ := h0
  have hm0' : n ≤ 9223372036854775807 := by unfold maxLen at hm0; omega
  have g1 := h1
  obtain ⟨B, n', d, rfl, hn1, hc1, hm1, -⟩ := h1
  have hm1' : n' ≤ 9223372036854775807 := by unfold maxLen at hm1; omega
  have g2 := h2
  obtain ⟨C, n'', f, rfl, hn2, hc2, hm2, -⟩ := h2
  have hm2' : n'' ≤ 9223372036854775807 := by unfold maxLen at hm2; omega
  clear hc0 hm0 hc1 hm1 hc2 hm2
  by_cases hbig0 : n ≤ 1048576
  · have hr := g0.rd (by omega)
    have hln0 : l.parts.length ≤ 1048576 := by omega
    by_cases hbig1 : n + n' ≤ 1048576
    · have hq := g1.rd (by omega)
      have hln1 : m.parts.length ≤ 1048576 := by omega
      by_cases hbig2 : n + n' + n'' ≤ 1048576
      · have hu := g2.rd (by omega)
        have hln2 : o.parts.length ≤ 1048576 := by omega
        clear hn0 g0 hn1 g1 hn2 g2
        go_enter Try.func5, Try.ntmps5
        go_wp2_with fail
        refine (sz_lab_yes A n c l.base 1048576 _ (by omega) (by omega) (by omega)).mono ?_
        rintro e w1 ⟨rfl, hb⟩
        obtain ⟨⟨Pc0, Pc1⟩, ⟨Qc0, Qc1⟩, ⟨Uc0, Uc1⟩, Uz, bel⟩ := box6 hb
        have Pz : w.heap.size < w1.heap.size := by omega
        have Qz : w.heap.size + 1 < w1.heap.size := by omega
        have sz1 := Uz
        have hge : ¬ (1048576 : Int) - n < 0 := by omega
        clear hb
        have hge1 : ¬ (1048576 : Int) - n - n' < 0 := by omega
        go_wp2_with fail
        refine (sz_lab_yes B n' d m.base (1048576 - n) _ (by omega) (by omega) (by omega)).mono ?_
        rintro e w2 ⟨rfl, hb⟩
        have sz2 : w1.heap.size ≤ w2.heap.size := by have := hb.size; simpa using this
        have Pc0' : w2.cell? ⟨w.heap.size, 0, none⟩ = some (.int .i64 l.base) := (hb.cell (by simp; omega)).trans (by first | exact Pc0 | (simp [go_sem, Pz, Pc0]; done))
        have Pc1' : w2.cell? ⟨w.heap.size, 1, none⟩ = some (.slice A n c) := (hb.cell (by simp; omega)).trans (by first | exact Pc1 | (simp [go_sem, Pz, Pc1]; done))
        have Qc0' : w2.cell? ⟨w.heap.size + 1, 0, none⟩ = some (.int .i64 m.base) := (hb.cell (by simp; omega)).trans (by first | exact Qc0 | (simp [go_sem, Qz, Qc0]; done))
        have Qc1' : w2.cell? ⟨w.heap.size + 1, 1, none⟩ = some (.slice B n' d) := (hb.cell (by simp; omega)).trans (by first | exact Qc1 | (simp [go_sem, Qz, Qc1]; done))
        have Uc0' : w2.cell? ⟨w.heap.size + 1 + 1, 0, none⟩ = some (.int .i64 o.base) := (hb.cell (by simp; omega)).trans (by first | exact Uc0 | (simp [go_sem, Uz, Uc0]; done))
        have Uc1' : w2.cell? ⟨w.heap.size + 1 + 1, 1, none⟩ = some (.slice C n'' f) := (hb.cell (by simp; omega)).trans (by first | exact Uc1 | (simp [go_sem, Uz, Uc1]; done))
        clear Pc0 Pc1 Qc0 Qc1 Uc0 Uc1 Pz Qz Uz
        have Pc0 := Pc0'
        have Pc1 := Pc1'
        have Pz := block_lt_of_cell Pc0
        have Qc0 := Qc0'
        have Qc1 := Qc1'
        have Qz := block_lt_of_cell Qc0
        have Uc0 := Uc0'
        have Uc1 := Uc1'
        have Uz := block_lt_of_cell Uc0
        clear Pc0' Pc1' Qc0' Qc1' Uc0' Uc1'
        have bel' : Below w.heap.size w w2 := bel.trans ((by first | exact hb | exact over_alloc hb | exact below_undrew hb : Below w1.heap.size w1 w2).mono bel.size)
        clear bel hb
        have bel := bel'
        clear bel'
        have hge2 : ¬ (1048576 : Int) - n - n' - n'' < 0 := by omega
        go_wp2_with fail
        refine (sz_lab_yes C n'' f o.base (1048576 - n - n') _ (by omega) (by omega) (by omega)).mono ?_
        rintro e w3 ⟨rfl, hb⟩
        have sz3 : w2.heap.size ≤ w3.heap.size := by have := hb.size; simpa using this
        have Pc0' : w3.cell? ⟨w.heap.size, 0, none⟩ = some (.int .i64 l.base) := (hb.cell (by simp; omega)).trans (by first | exact Pc0 | (simp [go_sem, Pz, Pc0]; done))
        have Pc1' : w3.cell? ⟨w.heap.size, 1, none⟩ = some (.slice A n c) := (hb.cell (by simp; omega)).trans (by first | exact Pc1 | (simp [go_sem, Pz, Pc1]; done))
        have Qc0' : w3.cell? ⟨w.heap.size + 1, 0, none⟩ = some (.int .i64 m.base) := (hb.cell (by simp; omega)).trans (by first | exact Qc0 | (simp [go_sem, Qz, Qc0]; done))
        have Qc1' : w3.cell? ⟨w.heap.size + 1, 1, none⟩ = some (.slice B n' d) := (hb.cell (by simp; omega)).trans (by first | exact Qc1 | (simp [go_sem, Qz, Qc1]; done))
        have Uc0' : w3.cell? ⟨w.heap.size + 1 + 1, 0, none⟩ = some (.int .i64 o.base) := (hb.cell (by simp; omega)).trans (by first | exact Uc0 | (simp [go_sem, Uz, Uc0]; done))
        have Uc1' : w3.cell? ⟨w.heap.size + 1 + 1, 1, none⟩ = some (.slice C n'' f) := (hb.cell (by simp; omega)).trans (by first | exact Uc1 | (simp [go_sem, Uz, Uc1]; done))
        clear Pc0 Pc1 Qc0 Qc1 Uc0 Uc1 Pz Qz Uz
        have Pc0 := Pc0'
        have Pc1 := Pc1'
        have Pz := block_lt_of_cell Pc0
        have Qc0 := Qc0'
        have Qc1 := Qc1'
        have Qz := block_lt_of_cell Qc0
        have Uc0 := Uc0'
        have Uc1 := Uc1'
        have Uz := block_lt_of_cell Uc0
        clear Pc0' Pc1' Qc0' Qc1' Uc0' Uc1'
        have bel' : Below w.heap.size w w3 := bel.trans ((by first | exact hb | exact over_alloc hb | exact below_undrew hb : Below w2.heap.size w2 w3).mono bel.size)
        clear bel hb
        have bel := bel'
        clear bel'
        have HC := Lib.hid (Below.refl w3.heap.size w3)
        go_upto_region 11 with fail
        go_cut [8, 9] (fun sa sb wx => Boxed w3 (taintL l m o).1 (taintL l m o).2 sa sb wx)
        case first =>
          go_region_held3 (fun w' => w'.cell? ⟨w.heap.size, 0, none⟩ = some (.int .i64 l.base) ∧ w'.cell? ⟨w.heap.size, 1, none⟩ = some (.slice A n c) ∧ w'.cell? ⟨w.heap.size + 1, 0, none⟩ = some (.int .i64 m.base) ∧ w'.cell? ⟨w.heap.size + 1, 1, none⟩ = some (.slice B n' d) ∧ w'.cell? ⟨w.heap.size + 1 + 1, 0, none⟩ = some (.int .i64 o.base) ∧ w'.cell? ⟨w.heap.size + 1 + 1, 1, none⟩ = some (.slice C n'' f))
            (first | exact ⟨ff0, ff1, ff2, ff3, ff4, ff5⟩ | go_keep)
            (first
            | (go_at_call_of 19 (Value.agg #[Value.int IntKind.i64 l.base, Value.slice A n c])
               refine (to_lab _ l _ (by first | exact hr.below (below_more bel HC.out) | exact (hr.below (below_more bel HC.out)).alloc _ | exact (hr.below (below_more bel HC.out)).drew | exact ((hr.below (below_more bel HC.out)).alloc _).drew | exact ((hr.below (below_more bel HC.out)).drew).alloc _)).mono ?_
               rintro e wn ⟨vv, rfl, own, hb⟩
               have HC0 := HC.out.size
               first
               | (have HY : Hid (Fresh wn _) := Lib.hid (by first | exact Fresh.new hb | exact Fresh.new (below_dr hb))
                  have ne0 : w.heap.size ≠ _ := Nat.ne_of_lt (Nat.lt_of_lt_of_le Pz HC0)
                  have nf0 := Ne.symm ne0
                  have ne1 : w.heap.size + 1 ≠ _ := Nat.ne_of_lt (Nat.lt_of_lt_of_le Qz HC0)
                  have nf1 := Ne.symm ne1
                  have ne2 : w.heap.size + 1 + 1 ≠ _ := Nat.ne_of_lt (Nat.lt_of_lt_of_le Uz HC0)
                  have nf2 := Ne.symm ne2
                  have HYl := HC0)
               | (have HYb := block_lt_of_cell HY.out.c0
                  have HY' := Lib.hid (HY.out.below (by first | exact hb | exact over_alloc hb | exact below_undrew hb | exact over_alloc (below_dr hb) | exact below_undrew (over_alloc hb)))
                  clear HY
                  have HY := HY'
                  clear HY')
               | skip
               try clear hy0 hy1 hq0 hq1
               try (have hy0 := HY.out.c0
                    have hy1 := HY.out.c1
                    have hq0 := HY.out.f0
                    have hq1 := HY.out.f1)
               have HC' : Hid (Below w3.heap.size w3 wn) := Lib.hid (by first | exact below_more HC.out hb | exact below_more HC.out (over_alloc hb) | exact below_more HC.out (below_undrew hb) | exact below_more HC.out (over_alloc (below_dr hb)) | exact below_more HC.out (below_undrew (over_alloc hb)))
               clear HC
               have HC := HC'
               clear HC'
               try clear ff0 ff1 ff2 ff3 ff4 ff5
               have ff0 : wn.cell? ⟨w.heap.size, 0, none⟩ = some (.int .i64 l.base) := (HC.out.cell (by exact Pz)).trans (by exact Pc0)
               have ff1 : wn.cell? ⟨w.heap.size, 1, none⟩ = some (.slice A n c) := (HC.out.cell (by exact Pz)).trans (by exact Pc1)
               have ff2 : wn.cell? ⟨w.heap.size + 1, 0, none⟩ = some (.int .i64 m.base) := (HC.out.cell (by exact Qz)).trans (by exact Qc0)
               have ff3 : wn.cell? ⟨w.heap.size + 1, 1, none⟩ = some (.slice B n' d) := (HC.out.cell (by exact Qz)).trans (by exact Qc1)
               have ff4 : wn.cell? ⟨w.heap.size + 1 + 1, 0, none⟩ = some (.int .i64 o.base) := (HC.out.cell (by exact Uz)).trans (by exact Uc0)
               have ff5 : wn.cell? ⟨w.heap.size + 1 + 1, 1, none⟩ = some (.slice C n'' f) := (HC.out.cell (by exact Uz)).trans (by exact Uc1)
               try (have R0' := Lib.hid (R0.out.below (by first | exact hb | exact over_alloc hb | exact below_undrew hb | exact over_alloc (below_dr hb) | exact below_undrew (over_alloc hb)))
                    clear R0
                    have R0 := R0'
                    clear R0')
               try (have R1' := Lib.hid (R1.out.below (by first | exact hb | exact over_alloc hb | exact below_undrew hb | exact over_alloc (below_dr hb) | exact below_undrew (over_alloc hb)))
                    clear R1
                    have R1 := R1'
                    clear R1')
               try (have R2' := Lib.hid (R2.out.below (by first | exact hb | exact over_alloc hb | exact below_undrew hb | exact over_alloc (below_dr hb) | exact below_undrew (over_alloc hb)))
                    clear R2
                    have R2 := R2'
                    clear R2')
               have R0 := Lib.hid own.rd
               obtain ⟨A40, n40, c40, rfl, -, -, -⟩ := own
               clear hb)
            | (go_at_call_of 19 (Value.agg #[Value.int IntKind.i64 m.base, Value.slice B n' d])
               refine (to_lab _ m _ (by first | exact hq.below (below_more bel HC.out) | exact (hq.below (below_more bel HC.out)).alloc _ | exact (hq.below (below_more bel HC.out)).drew | exact ((hq.below (below_more bel HC.out)).alloc _).drew | exact ((hq.below (below_more bel HC.out)).drew).alloc _)).mono ?_
               rintro e wn ⟨vv, rfl, own, hb⟩
               have HC0 := HC.out.size
               first
               | (have HY : Hid (Fresh wn _) := Lib.hid (by first | exact Fresh.new hb | exact Fresh.new (below_dr hb))
                  have ne0 : w.heap.size ≠ _ := Nat.ne_of_lt (Nat.lt_of_lt_of_le Pz HC0)
                  have nf0 := Ne.symm ne0
                  have ne1 : w.heap.size + 1 ≠ _ := Nat.ne_of_lt (Nat.lt_of_lt_of_le Qz HC0)
                  have nf1 := Ne.symm ne1
                  have ne2 : w.heap.size + 1 + 1 ≠ _ := Nat.ne_of_lt (Nat.lt_of_lt_of_le Uz HC0)
                  have nf2 := Ne.symm ne2
                  have HYl := HC0)
               | (have HYb := block_lt_of_cell HY.out.c0
                  have HY' := Lib.hid (HY.out.below (by first | exact hb | exact over_alloc hb | exact below_undrew hb | exact over_alloc (below_dr hb) | exact below_undrew (over_alloc hb)))
                  clear HY
                  have HY := HY'
                  clear HY')
               | skip
               try clear hy0 hy1 hq0 hq1
               try (have hy0 := HY.out.c0
                    have hy1 := HY.out.c1
                    have hq0 := HY.out.f0
                    have hq1 := HY.out.f1)
               have HC' : Hid (Below w3.heap.size w3 wn) := Lib.hid (by first | exact below_more HC.out hb | exact below_more HC.out (over_alloc hb) | exact below_more HC.out (below_undrew hb) | exact below_more HC.out (over_alloc (below_dr hb)) | exact below_more HC.out (below_undrew (over_alloc hb)))
               clear HC
               have HC := HC'
               clear HC'
               try clear ff0 ff1 ff2 ff3 ff4 ff5
               have ff0 : wn.cell? ⟨w.heap.size, 0, none⟩ = some (.int .i64 l.base) := (HC.out.cell (by exact Pz)).trans (by exact Pc0)
               have ff1 : wn.cell? ⟨w.heap.size, 1, none⟩ = some (.slice A n c) := (HC.out.cell (by exact Pz)).trans (by exact Pc1)
               have ff2 : wn.cell? ⟨w.heap.size + 1, 0, none⟩ = some (.int .i64 m.base) := (HC.out.cell (by exact Qz)).trans (by exact Qc0)
               have ff3 : wn.cell? ⟨w.heap.size + 1, 1, none⟩ = some (.slice B n' d) := (HC.out.cell (by exact Qz)).trans (by exact Qc1)
               have ff4 : wn.cell? ⟨w.heap.size + 1 + 1, 0, none⟩ = some (.int .i64 o.base) := (HC.out.cell (by exact Uz)).trans (by exact Uc0)
               have ff5 : wn.cell? ⟨w.heap.size + 1 + 1, 1, none⟩ = some (.slice C n'' f) := (HC.out.cell (by exact Uz)).trans (by exact Uc1)
               try (have R0' := Lib.hid (R0.out.below (by first | exact hb | exact over_alloc hb | exact below_undrew hb | exact over_alloc (below_dr hb) | exact below_undrew (over_alloc hb)))
                    clear R0
                    have R0 := R0'
                    clear R0')
               try (have R1' := Lib.hid (R1.out.below (by first | exact hb | exact over_alloc hb | exact below_undrew hb | exact over_alloc (below_dr hb) | exact below_undrew (over_alloc hb)))
                    clear R1
                    have R1 := R1'
                    clear R1')
               try (have R2' := Lib.hid (R2.out.below (by first | exact hb | exact over_alloc hb | exact below_undrew hb | exact over_alloc (below_dr hb) | exact below_undrew (over_alloc hb)))
                    clear R2
                    have R2 := R2'
                    clear R2')
               have R1 := Lib.hid own.rd
               obtain ⟨A41, n41, c41, rfl, -, -, -⟩ := own
               clear hb)
            | (go_at_call_of 19 (Value.agg #[Value.int IntKind.i64 o.base, Value.slice C n'' f])
               refine (to_lab _ o _ (by first | exact hu.below (below_more bel HC.out) | exact (hu.below (below_more bel HC.out)).alloc _ | exact (hu.below (below_more bel HC.out)).drew | exact ((hu.below (below_more bel HC.out)).alloc _).drew | exact ((hu.below (below_more bel HC.out)).drew).alloc _)).mono ?_
               rintro e wn ⟨vv, rfl, own, hb⟩
               have HC0 := HC.out.size
               first
               | (have HY : Hid (Fresh wn _) := Lib.hid (by first | exact Fresh.new hb | exact Fresh.new (below_dr hb))
                  have ne0 : w.heap.size ≠ _ := Nat.ne_of_lt (Nat.lt_of_lt_of_le Pz HC0)
                  have nf0 := Ne.symm ne0
                  have ne1 : w.heap.size + 1 ≠ _ := Nat.ne_of_lt (Nat.lt_of_lt_of_le Qz HC0)
                  have nf1 := Ne.symm ne1
                  have ne2 : w.heap.size + 1 + 1 ≠ _ := Nat.ne_of_lt (Nat.lt_of_lt_of_le Uz HC0)
                  have nf2 := Ne.symm ne2
                  have HYl := HC0)
               | (have HYb := block_lt_of_cell HY.out.c0
                  have HY' := Lib.hid (HY.out.below (by first | exact hb | exact over_alloc hb | exact below_undrew hb | exact over_alloc (below_dr hb) | exact below_undrew (over_alloc hb)))
                  clear HY
                  have HY := HY'
                  clear HY')
               | skip
               try clear hy0 hy1 hq0 hq1
               try (have hy0 := HY.out.c0
                    have hy1 := HY.out.c1
                    have hq0 := HY.out.f0
                    have hq1 := HY.out.f1)
               have HC' : Hid (Below w3.heap.size w3 wn) := Lib.hid (by first | exact below_more HC.out hb | exact below_more HC.out (over_alloc hb) | exact below_more HC.out (below_undrew hb) | exact below_more HC.out (over_alloc (below_dr hb)) | exact below_more HC.out (below_undrew (over_alloc hb)))
               clear HC
               have HC := HC'
               clear HC'
               try clear ff0 ff1 ff2 ff3 ff4 ff5
               have ff0 : wn.cell? ⟨w.heap.size, 0, none⟩ = some (.int .i64 l.base) := (HC.out.cell (by exact Pz)).trans (by exact Pc0)
               have ff1 : wn.cell? ⟨w.heap.size, 1, none⟩ = some (.slice A n c) := (HC.out.cell (by exact Pz)).trans (by exact Pc1)
               have ff2 : wn.cell? ⟨w.heap.size + 1, 0, none⟩ = some (.int .i64 m.base) := (HC.out.cell (by exact Qz)).trans (by exact Qc0)
               have ff3 : wn.cell? ⟨w.heap.size + 1, 1, none⟩ = some (.slice B n' d) := (HC.out.cell (by exact Qz)).trans (by exact Qc1)
               have ff4 : wn.cell? ⟨w.heap.size + 1 + 1, 0, none⟩ = some (.int .i64 o.base) := (HC.out.cell (by exact Uz)).trans (by exact Uc0)
               have ff5 : wn.cell? ⟨w.heap.size + 1 + 1, 1, none⟩ = some (.slice C n'' f) := (HC.out.cell (by exact Uz)).trans (by exact Uc1)
               try (have R0' := Lib.hid (R0.out.below (by first | exact hb | exact over_alloc hb | exact below_undrew hb | exact over_alloc (below_dr hb) | exact below_undrew (over_alloc hb)))
                    clear R0
                    have R0 := R0'
                    clear R0')
               try (have R1' := Lib.hid (R1.out.below (by first | exact hb | exact over_alloc hb | exact below_undrew hb | exact over_alloc (below_dr hb) | exact below_undrew (over_alloc hb)))
                    clear R1
                    have R1 := R1'
                    clear R1')
               try (have R2' := Lib.hid (R2.out.below (by first | exact hb | exact over_alloc hb | exact below_undrew hb | exact over_alloc (below_dr hb) | exact below_undrew (over_alloc hb)))
                    clear R2
                    have R2 := R2'
                    clear R2')
               have R2 := Lib.hid own.rd
               obtain ⟨A42, n42, c42, rfl, -, -, -⟩ := own
               clear hb)
            | (go_at_call 9
               refine (spec_tainted _ _ _ l m o _ R0.out R1.out R2.out).mono ?_
               rintro e wn ⟨vv, rfl, own, hb⟩
               have HC0 := HC.out.size
               first
               | (have HY : Hid (Fresh wn _) := Lib.hid (by first | exact Fresh.new hb | exact Fresh.new (below_dr hb))
                  have ne0 : w.heap.size ≠ _ := Nat.ne_of_lt (Nat.lt_of_lt_of_le Pz HC0)
                  have nf0 := Ne.symm ne0
                  have ne1 : w.heap.size + 1 ≠ _ := Nat.ne_of_lt (Nat.lt_of_lt_of_le Qz HC0)
                  have nf1 := Ne.symm ne1
                  have ne2 : w.heap.size + 1 + 1 ≠ _ := Nat.ne_of_lt (Nat.lt_of_lt_of_le Uz HC0)
                  have nf2 := Ne.symm ne2
                  have HYl := HC0)
               | (have HYb := block_lt_of_cell HY.out.c0
                  have HY' := Lib.hid (HY.out.below (by first | exact hb | exact over_alloc hb | exact below_undrew hb | exact over_alloc (below_dr hb) | exact below_undrew (over_alloc hb)))
                  clear HY
                  have HY := HY'
                  clear HY')
               | skip
               try clear hy0 hy1 hq0 hq1
               try (have hy0 := HY.out.c0
                    have hy1 := HY.out.c1
                    have hq0 := HY.out.f0
                    have hq1 := HY.out.f1)
               have HC' : Hid (Below w3.heap.size w3 wn) := Lib.hid (by first | exact below_more HC.out hb | exact below_more HC.out (over_alloc hb) | exact below_more HC.out (below_undrew hb) | exact below_more HC.out (over_alloc (below_dr hb)) | exact below_more HC.out (below_undrew (over_alloc hb)))
               clear HC
               have HC := HC'
               clear HC'
               try clear ff0 ff1 ff2 ff3 ff4 ff5
               have ff0 : wn.cell? ⟨w.heap.size, 0, none⟩ = some (.int .i64 l.base) := (HC.out.cell (by exact Pz)).trans (by exact Pc0)
               have ff1 : wn.cell? ⟨w.heap.size, 1, none⟩ = some (.slice A n c) := (HC.out.cell (by exact Pz)).trans (by exact Pc1)
               have ff2 : wn.cell? ⟨w.heap.size + 1, 0, none⟩ = some (.int .i64 m.base) := (HC.out.cell (by exact Qz)).trans (by exact Qc0)
               have ff3 : wn.cell? ⟨w.heap.size + 1, 1, none⟩ = some (.slice B n' d) := (HC.out.cell (by exact Qz)).trans (by exact Qc1)
               have ff4 : wn.cell? ⟨w.heap.size + 1 + 1, 0, none⟩ = some (.int .i64 o.base) := (HC.out.cell (by exact Uz)).trans (by exact Uc0)
               have ff5 : wn.cell? ⟨w.heap.size + 1 + 1, 1, none⟩ = some (.slice C n'' f) := (HC.out.cell (by exact Uz)).trans (by exact Uc1)
               try (have R0' := Lib.hid (R0.out.below (by first | exact hb | exact over_alloc hb | exact below_undrew hb | exact over_alloc (below_dr hb) | exact below_undrew (over_alloc hb)))
                    clear R0
                    have R0 := R0'
                    clear R0')
               try (have R1' := Lib.hid (R1.out.below (by first | exact hb | exact over_alloc hb | exact below_undrew hb | exact over_alloc (below_dr hb) | exact below_undrew (over_alloc hb)))
                    clear R1
                    have R1 := R1'
                    clear R1')
               try (have R2' := Lib.hid (R2.out.below (by first | exact hb | exact over_alloc hb | exact below_undrew hb | exact over_alloc (below_dr hb) | exact below_undrew (over_alloc hb)))
                    clear R2
                    have R2 := R2'
                    clear R2')
               have HOs := HC0
               have OW := Lib.hid own
               obtain ⟨A4, n4, c4, rfl, -, -, -⟩ := own
               clear hb)
            | (go_at_call 9
               refine (spec_tainted _ _ _ l m o _ (R0.out.alloc _) (R1.out.alloc _) (R2.out.alloc _)).mono ?_
               rintro e wn ⟨vv, rfl, own, hb⟩
               have HC0 := HC.out.size
               first
               | (have HY : Hid (Fresh wn _) := Lib.hid (by first | exact Fresh.new hb | exact Fresh.new (below_dr hb))
                  have ne0 : w.heap.size ≠ _ := Nat.ne_of_lt (Nat.lt_of_lt_of_le Pz HC0)
                  have nf0 := Ne.symm ne0
                  have ne1 : w.heap.size + 1 ≠ _ := Nat.ne_of_lt (Nat.lt_of_lt_of_le Qz HC0)
                  have nf1 := Ne.symm ne1
                  have ne2 : w.heap.size + 1 + 1 ≠ _ := Nat.ne_of_lt (Nat.lt_of_lt_of_le Uz HC0)
                  have nf2 := Ne.symm ne2
                  have HYl := HC0)
               | (have HYb := block_lt_of_cell HY.out.c0
                  have HY' := Lib.hid (HY.out.below (by first | exact hb | exact over_alloc hb | exact below_undrew hb | exact over_alloc (below_dr hb) | exact below_undrew (over_alloc hb)))
                  clear HY
                  have HY := HY'
                  clear HY')
               | skip
               try clear hy0 hy1 hq0 hq1
               try (have hy0 := HY.out.c0
                    have hy1 := HY.out.c1
                    have hq0 := HY.out.f0
                    have hq1 := HY.out.f1)
               have HC' : Hid (Below w3.heap.size w3 wn) := Lib.hid (by first | exact below_more HC.out hb | exact below_more HC.out (over_alloc hb) | exact below_more HC.out (below_undrew hb) | exact below_more HC.out (over_alloc (below_dr hb)) | exact below_more HC.out (below_undrew (over_alloc hb)))
               clear HC
               have HC := HC'
               clear HC'
               try clear ff0 ff1 ff2 ff3 ff4 ff5
               have ff0 : wn.cell? ⟨w.heap.size, 0, none⟩ = some (.int .i64 l.base) := (HC.out.cell (by exact Pz)).trans (by exact Pc0)
               have ff1 : wn.cell? ⟨w.heap.size, 1, none⟩ = some (.slice A n c) := (HC.out.cell (by exact Pz)).trans (by exact Pc1)
               have ff2 : wn.cell? ⟨w.heap.size + 1, 0, none⟩ = some (.int .i64 m.base) := (HC.out.cell (by exact Qz)).trans (by exact Qc0)
               have ff3 : wn.cell? ⟨w.heap.size + 1, 1, none⟩ = some (.slice B n' d) := (HC.out.cell (by exact Qz)).trans (by exact Qc1)
               have ff4 : wn.cell? ⟨w.heap.size + 1 + 1, 0, none⟩ = some (.int .i64 o.base) := (HC.out.cell (by exact Uz)).trans (by exact Uc0)
               have ff5 : wn.cell? ⟨w.heap.size + 1 + 1, 1, none⟩ = some (.slice C n'' f) := (HC.out.cell (by exact Uz)).trans (by exact Uc1)
               try (have R0' := Lib.hid (R0.out.below (by first | exact hb | exact over_alloc hb | exact below_undrew hb | exact over_alloc (below_dr hb) | exact below_undrew (over_alloc hb)))
                    clear R0
                    have R0 := R0'
                    clear R0')
               try (have R1' := Lib.hid (R1.out.below (by first | exact hb | exact over_alloc hb | exact below_undrew hb | exact over_alloc (below_dr hb) | exact below_undrew (over_alloc hb)))
                    clear R1
                    have R1 := R1'
                    clear R1')
               try (have R2' := Lib.hid (R2.out.below (by first | exact hb | exact over_alloc hb | exact below_undrew hb | exact over_alloc (below_dr hb) | exact below_undrew (over_alloc hb)))
                    clear R2
                    have R2 := R2'
                    clear R2')
               have HOs := HC0
               have OW := Lib.hid own
               obtain ⟨A4, n4, c4, rfl, -, -, -⟩ := own
               clear hb))
          all_goals
            go_wp2_with fail
            go_meet
            first
            | exact Boxed.laid HC.out OW.out HOs
            | exact Boxed.stored HC.out HYl HY.out OW.out (by first | exact HYb | (simp; done) | omega)
        obtain ⟨g4, A4, n4, c4, rfl, rfl, hb, hgo, u0, u1, own⟩ := hcut
        obtain ⟨w4, hw4⟩ : ∃ w4, w4 = wc := ⟨_, rfl⟩
        rw [← hw4] at hb u0 u1 own ⊢
        clear hw4 HC
        have W0r : Hid (∀ k, (labRow (.agg #[.int .i64 (taintL l m o).1.base, .slice A4 n4 c4])).ownBlock = some k → w3.heap.size ≤ k ∧ k < w4.heap.size) := Lib.hid (fun k hk => own.row k hk)
        have sz4 : w3.heap.size ≤ w4.heap.size := by have := hb.size; simpa using this
        have Pc0' : w4.cell? ⟨w.heap.size, 0, none⟩ = some (.int .i64 l.base) := (hb.cell (by simp; omega)).trans (by first | exact Pc0 | (simp [go_sem, Pz, Pc0]; done))
        have Pc1' : w4.cell? ⟨w.heap.size, 1, none⟩ = some (.slice A n c) := (hb.cell (by simp; omega)).trans (by first | exact Pc1 | (simp [go_sem, Pz, Pc1]; done))
        have Qc0' : w4.cell? ⟨w.heap.size + 1, 0, none⟩ = some (.int .i64 m.base) := (hb.cell (by simp; omega)).trans (by first | exact Qc0 | (simp [go_sem, Qz, Qc0]; done))
        have Qc1' : w4.cell? ⟨w.heap.size + 1, 1, none⟩ = some (.slice B n' d) := (hb.cell (by simp; omega)).trans (by first | exact Qc1 | (simp [go_sem, Qz, Qc1]; done))
        have Uc0' : w4.cell? ⟨w.heap.size + 1 + 1, 0, none⟩ = some (.int .i64 o.base) := (hb.cell (by simp; omega)).trans (by first | exact Uc0 | (simp [go_sem, Uz, Uc0]; done))
        have Uc1' : w4.cell? ⟨w.heap.size + 1 + 1, 1, none⟩ = some (.slice C n'' f) := (hb.cell (by simp; omega)).trans (by first | exact Uc1 | (simp [go_sem, Uz, Uc1]; done))
        clear Pc0 Pc1 Qc0 Qc1 Uc0 Uc1 Pz Qz Uz
        have Pc0 := Pc0'
        have Pc1 := Pc1'
        have Pz := block_lt_of_cell Pc0
        have Qc0 := Qc0'
        have Qc1 := Qc1'
        have Qz := block_lt_of_cell Qc0
        have Uc0 := Uc0'
        have Uc1 := Uc1'
        have Uz := block_lt_of_cell Uc0
        clear Pc0' Pc1' Qc0' Qc1' Uc0' Uc1'
        have bel' : Below w.heap.size w w4 := bel.trans ((by first | exact hb | exact over_alloc hb | exact below_undrew hb : Below w3.heap.size w3 w4).mono bel.size)
        clear bel hb
        have bel := bel'
        clear bel'
        have W0 := Lib.hid own
        clear own hgo
        have BWc0 := u0
        have BWc1 := u1
        have BWz := block_lt_of_cell u0
        have hgu4 := block_lt_of_cell u0
        clear u0 u1
        go_wp2_with fail
        refine (to_lab _ l _ (by first | exact hr.below bel | exact hr.below (bel.alloc bel.size _))).mono ?_
        rintro e w5 ⟨v5, rfl, own, hb⟩
        have X0r : Hid (∀ k, (labRow v5).ownBlock = some k → w4.heap.size ≤ k ∧ k < w5.heap.size) := fun k hk => by have := own.row k hk; simpa using this
        have sz5 : w4.heap.size ≤ w5.heap.size := by have := hb.size; simpa using this
        have Pc0' : w5.cell? ⟨w.heap.size, 0, none⟩ = some (.int .i64 l.base) := (hb.cell (by simp; omega)).trans (by first | exact Pc0 | (simp [go_sem, Pz, Pc0]; done))
        have Pc1' : w5.cell? ⟨w.heap.size, 1, none⟩ = some (.slice A n c) := (hb.cell (by simp; omega)).trans (by first | exact Pc1 | (simp [go_sem, Pz, Pc1]; done))
        have Qc0' : w5.cell? ⟨w.heap.size + 1, 0, none⟩ = some (.int .i64 m.base) := (hb.cell (by simp; omega)).trans (by first | exact Qc0 | (simp [go_sem, Qz, Qc0]; done))
        have Qc1' : w5.cell? ⟨w.heap.size + 1, 1, none⟩ = some (.slice B n' d) := (hb.cell (by simp; omega)).trans (by first | exact Qc1 | (simp [go_sem, Qz, Qc1]; done))
        have Uc0' : w5.cell? ⟨w.heap.size + 1 + 1, 0, none⟩ = some (.int .i64 o.base) := (hb.cell (by simp; omega)).trans (by first | exact Uc0 | (simp [go_sem, Uz, Uc0]; done))
        have Uc1' : w5.cell? ⟨w.heap.size + 1 + 1, 1, none⟩ = some (.slice C n'' f) := (hb.cell (by simp; omega)).trans (by first | exact Uc1 | (simp [go_sem, Uz, Uc1]; done))
        have BWc0' : w5.cell? ⟨g4, 0, none⟩ = some (.int .i64 (taintL l m o).1.base) := (hb.cell (by simp; omega)).trans (by first | exact BWc0 | (simp [go_sem, BWz, BWc0]; done))
        have BWc1' : w5.cell? ⟨g4, 1, none⟩ = some (.slice A4 n4 c4) := (hb.cell (by simp; omega)).trans (by first | exact BWc1 | (simp [go_sem, BWz, BWc1]; done))
        clear Pc0 Pc1 Qc0 Qc1 Uc0 Uc1 BWc0 BWc1 Pz Qz Uz BWz
        have Pc0 := Pc0'
        have Pc1 := Pc1'
        have Pz := block_lt_of_cell Pc0
        have Qc0 := Qc0'
        have Qc1 := Qc1'
        have Qz := block_lt_of_cell Qc0
        have Uc0 := Uc0'
        have Uc1 := Uc1'
        have Uz := block_lt_of_cell Uc0
        have BWc0 := BWc0'
        have BWc1 := BWc1'
        have BWz := block_lt_of_cell BWc0
        clear Pc0' Pc1' Qc0' Qc1' Uc0' Uc1' BWc0' BWc1'
        have W0' := Lib.hid (by first | exact W0.out.below hb | exact W0.out.over hb | exact W0.out.below (below_undrew hb))
        clear W0
        have W0 := W0'
        clear W0'
        have bel' : Below w.heap.size w w5 := bel.trans ((by first | exact hb | exact over_alloc hb | exact below_undrew hb : Below w4.heap.size w4 w5).mono bel.size)
        clear bel hb
        have bel := bel'
        clear bel'
        have X0 := Lib.hid own
        obtain ⟨A5, n5, c5, rfl, -, -, -⟩ := own
        go_wp2_with fail
        refine (to_lab _ m _ (by first | exact hq.below bel | exact hq.below (bel.alloc bel.size _))).mono ?_
        rintro e w6 ⟨v6, rfl, own, hb⟩
        have X1r : Hid (∀ k, (labRow v6).ownBlock = some k → w5.heap.size + 1 ≤ k ∧ k < w6.heap.size) := fun k hk => by have := own.row k hk; simpa using this
        have sz6 : w5.heap.size + 1 ≤ w6.heap.size := by have := hb.size; simpa using this
        have Pc0' : w6.cell? ⟨w.heap.size, 0, none⟩ = some (.int .i64 l.base) := (hb.cell (by simp; omega)).trans (by first | exact Pc0 | (simp [go_sem, Pz, Pc0]; done))
        have Pc1' : w6.cell? ⟨w.heap.size, 1, none⟩ = some (.slice A n c) := (hb.cell (by simp; omega)).trans (by first | exact Pc1 | (simp [go_sem, Pz, Pc1]; done))
        have Qc0' : w6.cell? ⟨w.heap.size + 1, 0, none⟩ = some (.int .i64 m.base) := (hb.cell (by simp; omega)).trans (by first | exact Qc0 | (simp [go_sem, Qz, Qc0]; done))
        have Qc1' : w6.cell? ⟨w.heap.size + 1, 1, none⟩ = some (.slice B n' d) := (hb.cell (by simp; omega)).trans (by first | exact Qc1 | (simp [go_sem, Qz, Qc1]; done))
        have Uc0' : w6.cell? ⟨w.heap.size + 1 + 1, 0, none⟩ = some (.int .i64 o.base) := (hb.cell (by simp; omega)).trans (by first | exact Uc0 | (simp [go_sem, Uz, Uc0]; done))
        have Uc1' : w6.cell? ⟨w.heap.size + 1 + 1, 1, none⟩ = some (.slice C n'' f) := (hb.cell (by simp; omega)).trans (by first | exact Uc1 | (simp [go_sem, Uz, Uc1]; done))
        have BWc0' : w6.cell? ⟨g4, 0, none⟩ = some (.int .i64 (taintL l m o).1.base) := (hb.cell (by simp; omega)).trans (by first | exact BWc0 | (simp [go_sem, BWz, BWc0]; done))
        have BWc1' : w6.cell? ⟨g4, 1, none⟩ = some (.slice A4 n4 c4) := (hb.cell (by simp; omega)).trans (by first | exact BWc1 | (simp [go_sem, BWz, BWc1]; done))
        clear Pc0 Pc1 Qc0 Qc1 Uc0 Uc1 BWc0 BWc1 Pz Qz Uz BWz
        have Pc0 := Pc0'
        have Pc1 := Pc1'
        have Pz := block_lt_of_cell Pc0
        have Qc0 := Qc0'
        have Qc1 := Qc1'
        have Qz := block_lt_of_cell Qc0
        have Uc0 := Uc0'
        have Uc1 := Uc1'
        have Uz := block_lt_of_cell Uc0
        have BWc0 := BWc0'
        have BWc1 := BWc1'
        have BWz := block_lt_of_cell BWc0
        clear Pc0' Pc1' Qc0' Qc1' Uc0' Uc1' BWc0' BWc1'
        have Cc0 : w6.cell? ⟨w5.heap.size, 0, none⟩ = some (.int .i64 l.base) := (hb.cell (by simp)).trans (World.cell?_alloc_new _ _ _ 0)
        have Cc1 : w6.cell? ⟨w5.heap.size, 1, none⟩ = some (.slice A5 n5 c5) := (hb.cell (by simp)).trans (World.cell?_alloc_new _ _ _ 1)
        have Cz := block_lt_of_cell Cc0
        have W0' := Lib.hid (by first | exact W0.out.below hb | exact W0.out.over hb | exact W0.out.below (below_undrew hb))
        clear W0
        have W0 := W0'
        clear W0'
        have X0' := Lib.hid (by first | exact X0.out.below hb | exact X0.out.over hb | exact X0.out.below (below_undrew hb))
        clear X0
        have X0 := X0'
        clear X0'
        have bel' : Below w.heap.size w w6 := bel.trans ((by first | exact hb | exact over_alloc hb | exact below_undrew hb : Below w5.heap.size w5 w6).mono bel.size)
        clear bel hb
        have bel := bel'
        clear bel'
        have X1 := Lib.hid own
        obtain ⟨A6, n6, c6, rfl, -, -, -⟩ := own
        go_wp2_with fail
        refine (to_lab _ o _ (by first | exact hu.below bel | exact hu.below (bel.alloc bel.size _))).mono ?_
        rintro e w7 ⟨v7, rfl, own, hb⟩
        have X2r : Hid (∀ k, (labRow v7).ownBlock = some k → w6.heap.size + 1 ≤ k ∧ k < w7.heap.size) := fun k hk => by have := own.row k hk; simpa using this
        have sz7 : w6.heap.size + 1 ≤ w7.heap.size := by have := hb.size; simpa using this
        have Pc0' : w7.cell? ⟨w.heap.size, 0, none⟩ = some (.int .i64 l.base) := (hb.cell (by simp; omega)).trans (by first | exact Pc0 | (simp [go_sem, Pz, Pc0]; done))
        have Pc1' : w7.cell? ⟨w.heap.size, 1, none⟩ = some (.slice A n c) := (hb.cell (by simp; omega)).trans (by first | exact Pc1 | (simp [go_sem, Pz, Pc1]; done))
        have Qc0' : w7.cell? ⟨w.heap.size + 1, 0, none⟩ = some (.int .i64 m.base) := (hb.cell (by simp; omega)).trans (by first | exact Qc0 | (simp [go_sem, Qz, Qc0]; done))
        have Qc1' : w7.cell? ⟨w.heap.size + 1, 1, none⟩ = some (.slice B n' d) := (hb.cell (by simp; omega)).trans (by first | exact Qc1 | (simp [go_sem, Qz, Qc1]; done))
        have Uc0' : w7.cell? ⟨w.heap.size + 1 + 1, 0, none⟩ = some (.int .i64 o.base) := (hb.cell (by simp; omega)).trans (by first | exact Uc0 | (simp [go_sem, Uz, Uc0]; done))
        have Uc1' : w7.cell? ⟨w.heap.size + 1 + 1, 1, none⟩ = some (.slice C n'' f) := (hb.cell (by simp; omega)).trans (by first | exact Uc1 | (simp [go_sem, Uz, Uc1]; done))
        have BWc0' : w7.cell? ⟨g4, 0, none⟩ = some (.int .i64 (taintL l m o).1.base) := (hb.cell (by simp; omega)).trans (by first | exact BWc0 | (simp [go_sem, BWz, BWc0]; done))
        have BWc1' : w7.cell? ⟨g4, 1, none⟩ = some (.slice A4 n4 c4) := (hb.cell (by simp; omega)).trans (by first | exact BWc1 | (simp [go_sem, BWz, BWc1]; done))
        have Cc0' : w7.cell? ⟨w5.heap.size, 0, none⟩ = some (.int .i64 l.base) := (hb.cell (by simp; omega)).trans (by first | exact Cc0 | (simp [go_sem, Cz, Cc0]; done))
        have Cc1' : w7.cell? ⟨w5.heap.size, 1, none⟩ = some (.slice A5 n5 c5) := (hb.cell (by simp; omega)).trans (by first | exact Cc1 | (simp [go_sem, Cz, Cc1]; done))
        clear Pc0 Pc1 Qc0 Qc1 Uc0 Uc1 BWc0 BWc1 Cc0 Cc1 Pz Qz Uz BWz Cz
        have Pc0 := Pc0'
        have Pc1 := Pc1'
        have Pz := block_lt_of_cell Pc0
        have Qc0 := Qc0'
        have Qc1 := Qc1'
        have Qz := block_lt_of_cell Qc0
        have Uc0 := Uc0'
        have Uc1 := Uc1'
        have Uz := block_lt_of_cell Uc0
        have BWc0 := BWc0'
        have BWc1 := BWc1'
        have BWz := block_lt_of_cell BWc0
        have Cc0 := Cc0'
        have Cc1 := Cc1'
        have Cz := block_lt_of_cell Cc0
        clear Pc0' Pc1' Qc0' Qc1' Uc0' Uc1' BWc0' BWc1' Cc0' Cc1'
        have Dc0 : w7.cell? ⟨w6.heap.size, 0, none⟩ = some (.int .i64 m.base) := (hb.cell (by simp)).trans (World.cell?_alloc_new _ _ _ 0)
        have Dc1 : w7.cell? ⟨w6.heap.size, 1, none⟩ = some (.slice A6 n6 c6) := (hb.cell (by simp)).trans (World.cell?_alloc_new _ _ _ 1)
        have Dz := block_lt_of_cell Dc0
        have W0' := Lib.hid (by first | exact W0.out.below hb | exact W0.out.over hb | exact W0.out.below (below_undrew hb))
        clear W0
        have W0 := W0'
        clear W0'
        have X0' := Lib.hid (by first | exact X0.out.below hb | exact X0.out.over hb | exact X0.out.below (below_undrew hb))
        clear X0
        have X0 := X0'
        clear X0'
        have X1' := Lib.hid (by first | exact X1.out.below hb | exact X1.out.over hb | exact X1.out.below (below_undrew hb))
        clear X1
        have X1 := X1'
        clear X1'
        have bel' : Below w.heap.size w w7 := bel.trans ((by first | exact hb | exact over_alloc hb | exact below_undrew hb : Below w6.heap.size w6 w7).mono bel.size)
        clear bel hb
        have bel := bel'
        clear bel'
        have X2 := Lib.hid own
        obtain ⟨A7, n7, c7, rfl, -, -, -⟩ := own
        go_wp2_with fail
        refine (impl_tainted _ _ _ l m o _ (by first | exact X0.out.rd | exact X0.out.rd.alloc _) (by first | exact X1.out.rd | exact X1.out.rd.alloc _) (by first | exact X2.out.rd | exact X2.out.rd.alloc _)).mono ?_
        rintro e w8 ⟨v8, rfl, own, hb⟩
        have G0r : Hid (∀ k, (labRow v8).ownBlock = some k → w7.heap.size + 1 ≤ k ∧ k < w8.heap.size) := fun k hk => by have := own.row k hk; simpa using this
        have sz8 : w7.heap.size + 1 ≤ w8.heap.size := by have := hb.size; simpa using this
        have Pc0' : w8.cell? ⟨w.heap.size, 0, none⟩ = some (.int .i64 l.base) := (hb.cell (by simp; omega)).trans (by first | exact Pc0 | (simp [go_sem, Pz, Pc0]; done))
        have Pc1' : w8.cell? ⟨w.heap.size, 1, none⟩ = some (.slice A n c) := (hb.cell (by simp; omega)).trans (by first | exact Pc1 | (simp [go_sem, Pz, Pc1]; done))
        have Qc0' : w8.cell? ⟨w.heap.size + 1, 0, none⟩ = some (.int .i64 m.base) := (hb.cell (by simp; omega)).trans (by first | exact Qc0 | (simp [go_sem, Qz, Qc0]; done))
        have Qc1' : w8.cell? ⟨w.heap.size + 1, 1, none⟩ = some (.slice B n' d) := (hb.cell (by simp; omega)).trans (by first | exact Qc1 | (simp [go_sem, Qz, Qc1]; done))
        have Uc0' : w8.cell? ⟨w.heap.size + 1 + 1, 0, none⟩ = some (.int .i64 o.base) := (hb.cell (by simp; omega)).trans (by first | exact Uc0 | (simp [go_sem, Uz, Uc0]; done))
        have Uc1' : w8.cell? ⟨w.heap.size + 1 + 1, 1, none⟩ = some (.slice C n'' f) := (hb.cell (by simp; omega)).trans (by first | exact Uc1 | (simp [go_sem, Uz, Uc1]; done))
        have BWc0' : w8.cell? ⟨g4, 0, none⟩ = some (.int .i64 (taintL l m o).1.base) := (hb.cell (by simp; omega)).trans (by first | exact BWc0 | (simp [go_sem, BWz, BWc0]; done))
        have BWc1' : w8.cell? ⟨g4, 1, none⟩ = some (.slice A4 n4 c4) := (hb.cell (by simp; omega)).trans (by first | exact BWc1 | (simp [go_sem, BWz, BWc1]; done))
        have Cc0' : w8.cell? ⟨w5.heap.size, 0, none⟩ = some (.int .i64 l.base) := (hb.cell (by simp; omega)).trans (by first | exact Cc0 | (simp [go_sem, Cz, Cc0]; done))
        have Cc1' : w8.cell? ⟨w5.heap.size, 1, none⟩ = some (.slice A5 n5 c5) := (hb.cell (by simp; omega)).trans (by first | exact Cc1 | (simp [go_sem, Cz, Cc1]; done))
        have Dc0' : w8.cell? ⟨w6.heap.size, 0, none⟩ = some (.int .i64 m.base) := (hb.cell (by simp; omega)).trans (by first | exact Dc0 | (simp [go_sem, Dz, Dc0]; done))
        have Dc1' : w8.cell? ⟨w6.heap.size, 1, none⟩ = some (.slice A6 n6 c6) := (hb.cell (by simp; omega)).trans (by first | exact Dc1 | (simp [go_sem, Dz, Dc1]; done))
        clear Pc0 Pc1 Qc0 Qc1 Uc0 Uc1 BWc0 BWc1 Cc0 Cc1 Dc0 Dc1 Pz Qz Uz BWz Cz Dz
        have Pc0 := Pc0'
        have Pc1 := Pc1'
        have Pz := block_lt_of_cell Pc0
        have Qc0 := Qc0'
        have Qc1 := Qc1'
        have Qz := block_lt_of_cell Qc0
        have Uc0 := Uc0'
        have Uc1 := Uc1'
        have Uz := block_lt_of_cell Uc0
        have BWc0 := BWc0'
        have BWc1 := BWc1'
        have BWz := block_lt_of_cell BWc0
        have Cc0 := Cc0'
        have Cc1 := Cc1'
        have Cz := block_lt_of_cell Cc0
        have Dc0 := Dc0'
        have Dc1 := Dc1'
        have Dz := block_lt_of_cell Dc0
        clear Pc0' Pc1' Qc0' Qc1' Uc0' Uc1' BWc0' BWc1' Cc0' Cc1' Dc0' Dc1'
        have Ec0 : w8.cell? ⟨w7.heap.size, 0, none⟩ = some (.int .i64 o.base) := (hb.cell (by simp)).trans (World.cell?_alloc_new _ _ _ 0)
        have Ec1 : w8.cell? ⟨w7.heap.size, 1, none⟩ = some (.slice A7 n7 c7) := (hb.cell (by simp)).trans (World.cell?_alloc_new _ _ _ 1)
        have Ez := block_lt_of_cell Ec0
        have W0' := Lib.hid (by first | exact W0.out.below hb | exact W0.out.over hb | exact W0.out.below (below_undrew hb))
        clear W0
        have W0 := W0'
        clear W0'
        have X0' := Lib.hid (by first | exact X0.out.below hb | exact X0.out.over hb | exact X0.out.below (below_undrew hb))
        clear X0
        have X0 := X0'
        clear X0'
        have X1' := Lib.hid (by first | exact X1.out.below hb | exact X1.out.over hb | exact X1.out.below (below_undrew hb))
        clear X1
        have X1 := X1'
        clear X1'
        have X2' := Lib.hid (by first | exact X2.out.below hb | exact X2.out.over hb | exact X2.out.below (below_undrew hb))
        clear X2
        have X2 := X2'
        clear X2'
        have bel' : Below w.heap.size w w8 := bel.trans ((by first | exact hb | exact over_alloc hb | exact below_undrew hb : Below w7.heap.size w7 w8).mono bel.size)
        clear bel hb
        have bel := bel'
        clear bel'
        have G0 := Lib.hid own
        obtain ⟨A8, n8, c8, rfl, -, -, -⟩ := own
        have heq := labEq_rfl (taintL l m o).1
        go_wp2_with fail
        refine (eq_lab _ _ (taintL l m o).1 (taintL l m o).1 _ (by first | exact G0.out.rd | exact G0.out.rd.alloc _) (by first | exact W0.out.rd | exact W0.out.rd.alloc _)).mono ?_
        rintro e w9 ⟨rfl, hb⟩
        have sz9 : w8.heap.size + 1 ≤ w9.heap.size := by have := hb.size; simpa using this
        have Pc0' : w9.cell? ⟨w.heap.size, 0, none⟩ = some (.int .i64 l.base) := (hb.cell (by simp; omega)).trans (by first | exact Pc0 | (simp [go_sem, Pz, Pc0]; done))
        have Pc1' : w9.cell? ⟨w.heap.size, 1, none⟩ = some (.slice A n c) := (hb.cell (by simp; omega)).trans (by first | exact Pc1 | (simp [go_sem, Pz, Pc1]; done))
        have Qc0' : w9.cell? ⟨w.heap.size + 1, 0, none⟩ = some (.int .i64 m.base) := (hb.cell (by simp; omega)).trans (by first | exact Qc0 | (simp [go_sem, Qz, Qc0]; done))
        have Qc1' : w9.cell? ⟨w.heap.size + 1, 1, none⟩ = some (.slice B n' d) := (hb.cell (by simp; omega)).trans (by first | exact Qc1 | (simp [go_sem, Qz, Qc1]; done))
        have Uc0' : w9.cell? ⟨w.heap.size + 1 + 1, 0, none⟩ = some (.int .i64 o.base) := (hb.cell (by simp; omega)).trans (by first | exact Uc0 | (simp [go_sem, Uz, Uc0]; done))
        have Uc1' : w9.cell? ⟨w.heap.size + 1 + 1, 1, none⟩ = some (.slice C n'' f) := (hb.cell (by simp; omega)).trans (by first | exact Uc1 | (simp [go_sem, Uz, Uc1]; done))
        have BWc0' : w9.cell? ⟨g4, 0, none⟩ = some (.int .i64 (taintL l m o).1.base) := (hb.cell (by simp; omega)).trans (by first | exact BWc0 | (simp [go_sem, BWz, BWc0]; done))
        have BWc1' : w9.cell? ⟨g4, 1, none⟩ = some (.slice A4 n4 c4) := (hb.cell (by simp; omega)).trans (by first | exact BWc1 | (simp [go_sem, BWz, BWc1]; done))
        have Cc0' : w9.cell? ⟨w5.heap.size, 0, none⟩ = some (.int .i64 l.base) := (hb.cell (by simp; omega)).trans (by first | exact Cc0 | (simp [go_sem, Cz, Cc0]; done))
        have Cc1' : w9.cell? ⟨w5.heap.size, 1, none⟩ = some (.slice A5 n5 c5) := (hb.cell (by simp; omega)).trans (by first | exact Cc1 | (simp [go_sem, Cz, Cc1]; done))
        have Dc0' : w9.cell? ⟨w6.heap.size, 0, none⟩ = some (.int .i64 m.base) := (hb.cell (by simp; omega)).trans (by first | exact Dc0 | (simp [go_sem, Dz, Dc0]; done))
        have Dc1' : w9.cell? ⟨w6.heap.size, 1, none⟩ = some (.slice A6 n6 c6) := (hb.cell (by simp; omega)).trans (by first | exact Dc1 | (simp [go_sem, Dz, Dc1]; done))
        have Ec0' : w9.cell? ⟨w7.heap.size, 0, none⟩ = some (.int .i64 o.base) := (hb.cell (by simp; omega)).trans (by first | exact Ec0 | (simp [go_sem, Ez, Ec0]; done))
        have Ec1' : w9.cell? ⟨w7.heap.size, 1, none⟩ = some (.slice A7 n7 c7) := (hb.cell (by simp; omega)).trans (by first | exact Ec1 | (simp [go_sem, Ez, Ec1]; done))
        clear Pc0 Pc1 Qc0 Qc1 Uc0 Uc1 BWc0 BWc1 Cc0 Cc1 Dc0 Dc1 Ec0 Ec1 Pz Qz Uz BWz Cz Dz Ez
        have Pc0 := Pc0'
        have Pc1 := Pc1'
        have Pz := block_lt_of_cell Pc0
        have Qc0 := Qc0'
        have Qc1 := Qc1'
        have Qz := block_lt_of_cell Qc0
        have Uc0 := Uc0'
        have Uc1 := Uc1'
        have Uz := block_lt_of_cell Uc0
        have BWc0 := BWc0'
        have BWc1 := BWc1'
        have BWz := block_lt_of_cell BWc0
        have Cc0 := Cc0'
        have Cc1 := Cc1'
        have Cz := block_lt_of_cell Cc0
        have Dc0 := Dc0'
        have Dc1 := Dc1'
        have Dz := block_lt_of_cell Dc0
        have Ec0 := Ec0'
        have Ec1 := Ec1'
        have Ez := block_lt_of_cell Ec0
        clear Pc0' Pc1' Qc0' Qc1' Uc0' Uc1' BWc0' BWc1' Cc0' Cc1' Dc0' Dc1' Ec0' Ec1'
        have BGc0 : w9.cell? ⟨w8.heap.size, 0, none⟩ = some (.int .i64 (taintL l m o).1.base) := (hb.cell (by simp)).trans (World.cell?_alloc_new _ _ _ 0)
        have BGc1 : w9.cell? ⟨w8.heap.size, 1, none⟩ = some (.slice A8 n8 c8) := (hb.cell (by simp)).trans (World.cell?_alloc_new _ _ _ 1)
        have BGz := block_lt_of_cell BGc0
        have W0' := Lib.hid (by first | exact W0.out.below hb | exact W0.out.over hb | exact W0.out.below (below_undrew hb))
        clear W0
        have W0 := W0'
        clear W0'
        have X0' := Lib.hid (by first | exact X0.out.below hb | exact X0.out.over hb | exact X0.out.below (below_undrew hb))
        clear X0
        have X0 := X0'
        clear X0'
        have X1' := Lib.hid (by first | exact X1.out.below hb | exact X1.out.over hb | exact X1.out.below (below_undrew hb))
        clear X1
        have X1 := X1'
        clear X1'
        have X2' := Lib.hid (by first | exact X2.out.below hb | exact X2.out.over hb | exact X2.out.below (below_undrew hb))
        clear X2
        have X2 := X2'
        clear X2'
        have G0' := Lib.hid (by first | exact G0.out.below hb | exact G0.out.over hb | exact G0.out.below (below_undrew hb))
        clear G0
        have G0 := G0'
        clear G0'
        have bel' : Below w.heap.size w w9 := bel.trans ((by first | exact hb | exact over_alloc hb | exact below_undrew hb : Below w8.heap.size w8 w9).mono bel.size)
        clear bel hb
        have bel := bel'
        clear bel'
        have heql := labEq_rfl l
        go_wp2
        go_region_held3 (fun w' => w'.cell? ⟨w.heap.size, 0, none⟩ = some (.int .i64 l.base) ∧ w'.cell? ⟨w.heap.size, 1, none⟩ = some (.slice A n c) ∧ w'.cell? ⟨w.heap.size + 1, 0, none⟩ = some (.int .i64 m.base) ∧ w'.cell? ⟨w.heap.size + 1, 1, none⟩ = some (.slice B n' d) ∧ w'.cell? ⟨w.heap.size + 1 + 1, 0, none⟩ = some (.int .i64 o.base) ∧ w'.cell? ⟨w.heap.size + 1 + 1, 1, none⟩ = some (.slice C n'' f) ∧ w'.cell? ⟨g4, 0, none⟩ = some (.int .i64 (taintL l m o).1.base) ∧ w'.cell? ⟨g4, 1, none⟩ = some (.slice A4 n4 c4) ∧ w'.cell? ⟨w5.heap.size, 0, none⟩ = some (.int .i64 l.base) ∧ w'.cell? ⟨w5.heap.size, 1, none⟩ = some (.slice A5 n5 c5) ∧ w'.cell? ⟨w6.heap.size, 0, none⟩ = some (.int .i64 m.base) ∧ w'.cell? ⟨w6.heap.size, 1, none⟩ = some (.slice A6 n6 c6) ∧ w'.cell? ⟨w7.heap.size, 0, none⟩ = some (.int .i64 o.base) ∧ w'.cell? ⟨w7.heap.size, 1, none⟩ = some (.slice A7 n7 c7) ∧ w'.cell? ⟨w8.heap.size, 0, none⟩ = some (.int .i64 (taintL l m o).1.base) ∧ w'.cell? ⟨w8.heap.size, 1, none⟩ = some (.slice A8 n8 c8))
          (first | exact ⟨kb0, kb1, kb2, kb3, kb4, kb5, kb6, kb7, kb8, kb9, kb10, kb11, kb12, kb13, kb14, kb15⟩ | exact ⟨ka0, ka1, ka2, ka3, ka4, ka5, ka6, ka7, ka8, ka9, ka10, ka11, ka12, ka13, ka14, ka15⟩ | go_keep)
          (first
          | (go_at_call 19
             refine (to_lab _ l _ (hr.below (by first | exact bel | exact bel.drew))).mono ?_
             rintro e w10 ⟨va, rfl, owna, hba⟩
             have ka0 : w10.cell? ⟨w.heap.size, 0, none⟩ = some (.int .i64 l.base) := (hba.cell (by simp; omega)).trans (by exact Pc0)
             have za0 : w.heap.size < w10.heap.size := block_lt_of_cell ka0
             have ka1 : w10.cell? ⟨w.heap.size, 1, none⟩ = some (.slice A n c) := (hba.cell (by simp; omega)).trans (by exact Pc1)
             have za1 : w.heap.size < w10.heap.size := block_lt_of_cell ka1
             have ka2 : w10.cell? ⟨w.heap.size + 1, 0, none⟩ = some (.int .i64 m.base) := (hba.cell (by simp; omega)).trans (by exact Qc0)
             have za2 : w.heap.size + 1 < w10.heap.size := block_lt_of_cell ka2
             have ka3 : w10.cell? ⟨w.heap.size + 1, 1, none⟩ = some (.slice B n' d) := (hba.cell (by simp; omega)).trans (by exact Qc1)
             have za3 : w.heap.size + 1 < w10.heap.size := block_lt_of_cell ka3
             have ka4 : w10.cell? ⟨w.heap.size + 1 + 1, 0, none⟩ = some (.int .i64 o.base) := (hba.cell (by simp; omega)).trans (by exact Uc0)
             have za4 : w.heap.size + 1 + 1 < w10.heap.size := block_lt_of_cell ka4
             have ka5 : w10.cell? ⟨w.heap.size + 1 + 1, 1, none⟩ = some (.slice C n'' f) := (hba.cell (by simp; omega)).trans (by exact Uc1)
             have za5 : w.heap.size + 1 + 1 < w10.heap.size := block_lt_of_cell ka5
             have ka6 : w10.cell? ⟨g4, 0, none⟩ = some (.int .i64 (taintL l m o).1.base) := (hba.cell (by simp; omega)).trans (by exact BWc0)
             have za6 : g4 < w10.heap.size := block_lt_of_cell ka6
             have ka7 : w10.cell? ⟨g4, 1, none⟩ = some (.slice A4 n4 c4) := (hba.cell (by simp; omega)).trans (by exact BWc1)
             have za7 : g4 < w10.heap.size := block_lt_of_cell ka7
             have ka8 : w10.cell? ⟨w5.heap.size, 0, none⟩ = some (.int .i64 l.base) := (hba.cell (by simp; omega)).trans (by exact Cc0)
             have za8 : w5.heap.size < w10.heap.size := block_lt_of_cell ka8
             have ka9 : w10.cell? ⟨w5.heap.size, 1, none⟩ = some (.slice A5 n5 c5) := (hba.cell (by simp; omega)).trans (by exact Cc1)
             have za9 : w5.heap.size < w10.heap.size := block_lt_of_cell ka9
             have ka10 : w10.cell? ⟨w6.heap.size, 0, none⟩ = some (.int .i64 m.base) := (hba.cell (by simp; omega)).trans (by exact Dc0)
             have za10 : w6.heap.size < w10.heap.size := block_lt_of_cell ka10
             have ka11 : w10.cell? ⟨w6.heap.size, 1, none⟩ = some (.slice A6 n6 c6) := (hba.cell (by simp; omega)).trans (by exact Dc1)
             have za11 : w6.heap.size < w10.heap.size := block_lt_of_cell ka11
             have ka12 : w10.cell? ⟨w7.heap.size, 0, none⟩ = some (.int .i64 o.base) := (hba.cell (by simp; omega)).trans (by exact Ec0)
             have za12 : w7.heap.size < w10.heap.size := block_lt_of_cell ka12
             have ka13 : w10.cell? ⟨w7.heap.size, 1, none⟩ = some (.slice A7 n7 c7) := (hba.cell (by simp; omega)).trans (by exact Ec1)
             have za13 : w7.heap.size < w10.heap.size := block_lt_of_cell ka13
             have ka14 : w10.cell? ⟨w8.heap.size, 0, none⟩ = some (.int .i64 (taintL l m o).1.base) := (hba.cell (by simp; omega)).trans (by exact BGc0)
             have za14 : w8.heap.size < w10.heap.size := block_lt_of_cell ka14
             have ka15 : w10.cell? ⟨w8.heap.size, 1, none⟩ = some (.slice A8 n8 c8) := (hba.cell (by simp; omega)).trans (by exact BGc1)
             have za15 : w8.heap.size < w10.heap.size := block_lt_of_cell ka15
             have HBA := Lib.hid hba
             have rda := owna.rd
             have rdx := X0.out.rd.below (by first | exact hba | exact below_undrew hba)
             obtain ⟨Aa, na, ca, rfl, -, -, -⟩ := owna
             clear hba)
          | (go_at_call 20
             refine (eq_lab _ _ l l _ (by exact rdx) (by exact rda)).mono ?_
             rintro e w11 ⟨rfl, hbb⟩
             have kb0 : w11.cell? ⟨w.heap.size, 0, none⟩ = some (.int .i64 l.base) := (hbb.cell (by simp; omega)).trans (by exact ka0)
             have kb1 : w11.cell? ⟨w.heap.size, 1, none⟩ = some (.slice A n c) := (hbb.cell (by simp; omega)).trans (by exact ka1)
             have kb2 : w11.cell? ⟨w.heap.size + 1, 0, none⟩ = some (.int .i64 m.base) := (hbb.cell (by simp; omega)).trans (by exact ka2)
             have kb3 : w11.cell? ⟨w.heap.size + 1, 1, none⟩ = some (.slice B n' d) := (hbb.cell (by simp; omega)).trans (by exact ka3)
             have kb4 : w11.cell? ⟨w.heap.size + 1 + 1, 0, none⟩ = some (.int .i64 o.base) := (hbb.cell (by simp; omega)).trans (by exact ka4)
             have kb5 : w11.cell? ⟨w.heap.size + 1 + 1, 1, none⟩ = some (.slice C n'' f) := (hbb.cell (by simp; omega)).trans (by exact ka5)
             have kb6 : w11.cell? ⟨g4, 0, none⟩ = some (.int .i64 (taintL l m o).1.base) := (hbb.cell (by simp; omega)).trans (by exact ka6)
             have kb7 : w11.cell? ⟨g4, 1, none⟩ = some (.slice A4 n4 c4) := (hbb.cell (by simp; omega)).trans (by exact ka7)
             have kb8 : w11.cell? ⟨w5.heap.size, 0, none⟩ = some (.int .i64 l.base) := (hbb.cell (by simp; omega)).trans (by exact ka8)
             have kb9 : w11.cell? ⟨w5.heap.size, 1, none⟩ = some (.slice A5 n5 c5) := (hbb.cell (by simp; omega)).trans (by exact ka9)
             have kb10 : w11.cell? ⟨w6.heap.size, 0, none⟩ = some (.int .i64 m.base) := (hbb.cell (by simp; omega)).trans (by exact ka10)
             have kb11 : w11.cell? ⟨w6.heap.size, 1, none⟩ = some (.slice A6 n6 c6) := (hbb.cell (by simp; omega)).trans (by exact ka11)
             have kb12 : w11.cell? ⟨w7.heap.size, 0, none⟩ = some (.int .i64 o.base) := (hbb.cell (by simp; omega)).trans (by exact ka12)
             have kb13 : w11.cell? ⟨w7.heap.size, 1, none⟩ = some (.slice A7 n7 c7) := (hbb.cell (by simp; omega)).trans (by exact ka13)
             have kb14 : w11.cell? ⟨w8.heap.size, 0, none⟩ = some (.int .i64 (taintL l m o).1.base) := (hbb.cell (by simp; omega)).trans (by exact ka14)
             have kb15 : w11.cell? ⟨w8.heap.size, 1, none⟩ = some (.slice A8 n8 c8) := (hbb.cell (by simp; omega)).trans (by exact ka15)
             have HBB : Hid (Below w9.heap.size w9 w11) := (by first | exact HBA.out | exact below_undrew HBA.out : Below w9.heap.size w9 w10).trans (hbb.mono (by first | exact HBA.out.size | exact (below_undrew HBA.out).size))
             clear hbb))
        have hb := HBB.out
        clear HBB HBA rda rdx ka0 za0 kb0 ka1 za1 kb1 ka2 za2 kb2 ka3 za3 kb3 ka4 za4 kb4 ka5 za5 kb5 ka6 za6 kb6 ka7 za7 kb7 ka8 za8 kb8 ka9 za9 kb9 ka10 za10 kb10 ka11 za11 kb11 ka12 za12 kb12 ka13 za13 kb13 ka14 za14 kb14 ka15 za15 kb15
        have sz11 : w9.heap.size ≤ w11.heap.size := by have := hb.size; simpa using this
        have Pc0' : w11.cell? ⟨w.heap.size, 0, none⟩ = some (.int .i64 l.base) := (hb.cell (by simp; omega)).trans (by first | exact Pc0 | (simp [go_sem, Pz, Pc0]; done))
        have Pc1' : w11.cell? ⟨w.heap.size, 1, none⟩ = some (.slice A n c) := (hb.cell (by simp; omega)).trans (by first | exact Pc1 | (simp [go_sem, Pz, Pc1]; done))
        have Qc0' : w11.cell? ⟨w.heap.size + 1, 0, none⟩ = some (.int .i64 m.base) := (hb.cell (by simp; omega)).trans (by first | exact Qc0 | (simp [go_sem, Qz, Qc0]; done))
        have Qc1' : w11.cell? ⟨w.heap.size + 1, 1, none⟩ = some (.slice B n' d) := (hb.cell (by simp; omega)).trans (by first | exact Qc1 | (simp [go_sem, Qz, Qc1]; done))
        have Uc0' : w11.cell? ⟨w.heap.size + 1 + 1, 0, none⟩ = some (.int .i64 o.base) := (hb.cell (by simp; omega)).trans (by first | exact Uc0 | (simp [go_sem, Uz, Uc0]; done))
        have Uc1' : w11.cell? ⟨w.heap.size + 1 + 1, 1, none⟩ = some (.slice C n'' f) := (hb.cell (by simp; omega)).trans (by first | exact Uc1 | (simp [go_sem, Uz, Uc1]; done))
        have BWc0' : w11.cell? ⟨g4, 0, none⟩ = some (.int .i64 (taintL l m o).1.base) := (hb.cell (by simp; omega)).trans (by first | exact BWc0 | (simp [go_sem, BWz, BWc0]; done))
        have BWc1' : w11.cell? ⟨g4, 1, none⟩ = some (.slice A4 n4 c4) := (hb.cell (by simp; omega)).trans (by first | exact BWc1 | (simp [go_sem, BWz, BWc1]; done))
        have Cc0' : w11.cell? ⟨w5.heap.size, 0, none⟩ = some (.int .i64 l.base) := (hb.cell (by simp; omega)).trans (by first | exact Cc0 | (simp [go_sem, Cz, Cc0]; done))
        have Cc1' : w11.cell? ⟨w5.heap.size, 1, none⟩ = some (.slice A5 n5 c5) := (hb.cell (by simp; omega)).trans (by first | exact Cc1 | (simp [go_sem, Cz, Cc1]; done))
        have Dc0' : w11.cell? ⟨w6.heap.size, 0, none⟩ = some (.int .i64 m.base) := (hb.cell (by simp; omega)).trans (by first | exact Dc0 | (simp [go_sem, Dz, Dc0]; done))
        have Dc1' : w11.cell? ⟨w6.heap.size, 1, none⟩ = some (.slice A6 n6 c6) := (hb.cell (by simp; omega)).trans (by first | exact Dc1 | (simp [go_sem, Dz, Dc1]; done))
        have Ec0' : w11.cell? ⟨w7.heap.size, 0, none⟩ = some (.int .i64 o.base) := (hb.cell (by simp; omega)).trans (by first | exact Ec0 | (simp [go_sem, Ez, Ec0]; done))
        have Ec1' : w11.cell? ⟨w7.heap.size, 1, none⟩ = some (.slice A7 n7 c7) := (hb.cell (by simp; omega)).trans (by first | exact Ec1 | (simp [go_sem, Ez, Ec1]; done))
        have BGc0' : w11.cell? ⟨w8.heap.size, 0, none⟩ = some (.int .i64 (taintL l m o).1.base) := (hb.cell (by simp; omega)).trans (by first | exact BGc0 | (simp [go_sem, BGz, BGc0]; done))
        have BGc1' : w11.cell? ⟨w8.heap.size, 1, none⟩ = some (.slice A8 n8 c8) := (hb.cell (by simp; omega)).trans (by first | exact BGc1 | (simp [go_sem, BGz, BGc1]; done))
        clear Pc0 Pc1 Qc0 Qc1 Uc0 Uc1 BWc0 BWc1 Cc0 Cc1 Dc0 Dc1 Ec0 Ec1 BGc0 BGc1 Pz Qz Uz BWz Cz Dz Ez BGz
        have Pc0 := Pc0'
        have Pc1 := Pc1'
        have Pz := block_lt_of_cell Pc0
        have Qc0 := Qc0'
        have Qc1 := Qc1'
        have Qz := block_lt_of_cell Qc0
        have Uc0 := Uc0'
        have Uc1 := Uc1'
        have Uz := block_lt_of_cell Uc0
        have BWc0 := BWc0'
        have BWc1 := BWc1'
        have BWz := block_lt_of_cell BWc0
        have Cc0 := Cc0'
        have Cc1 := Cc1'
        have Cz := block_lt_of_cell Cc0
        have Dc0 := Dc0'
        have Dc1 := Dc1'
        have Dz := block_lt_of_cell Dc0
        have Ec0 := Ec0'
        have Ec1 := Ec1'
        have Ez := block_lt_of_cell Ec0
        have BGc0 := BGc0'
        have BGc1 := BGc1'
        have BGz := block_lt_of_cell BGc0
        clear Pc0' Pc1' Qc0' Qc1' Uc0' Uc1' BWc0' BWc1' Cc0' Cc1' Dc0' Dc1' Ec0' Ec1' BGc0' BGc1'
        have W0' := Lib.hid (by first | exact W0.out.below hb | exact W0.out.over hb | exact W0.out.below (below_undrew hb))
        clear W0
        have W0 := W0'
        clear W0'
        have X0' := Lib.hid (by first | exact X0.out.below hb | exact X0.out.over hb | exact X0.out.below (below_undrew hb))
        clear X0
        have X0 := X0'
        clear X0'
        have X1' := Lib.hid (by first | exact X1.out.below hb | exact X1.out.over hb | exact X1.out.below (below_undrew hb))
        clear X1
        have X1 := X1'
        clear X1'
        have X2' := Lib.hid (by first | exact X2.out.below hb | exact X2.out.over hb | exact X2.out.below (below_undrew hb))
        clear X2
        have X2 := X2'
        clear X2'
        have G0' := Lib.hid (by first | exact G0.out.below hb | exact G0.out.over hb | exact G0.out.below (below_undrew hb))
        clear G0
        have G0 := G0'
        clear G0'
        have bel' : Below w.heap.size w w11 := bel.trans ((by first | exact hb | exact over_alloc hb | exact below_undrew hb : Below w9.heap.size w9 w11).mono bel.size)
        clear bel hb
        have bel := bel'
        clear bel'
        have heqm := labEq_rfl m
        go_wp2
        go_region_held3 (fun w' => w'.cell? ⟨w.heap.size, 0, none⟩ = some (.int .i64 l.base) ∧ w'.cell? ⟨w.heap.size, 1, none⟩ = some (.slice A n c) ∧ w'.cell? ⟨w.heap.size + 1, 0, none⟩ = some (.int .i64 m.base) ∧ w'.cell? ⟨w.heap.size + 1, 1, none⟩ = some (.slice B n' d) ∧ w'.cell? ⟨w.heap.size + 1 + 1, 0, none⟩ = some (.int .i64 o.base) ∧ w'.cell? ⟨w.heap.size + 1 + 1, 1, none⟩ = some (.slice C n'' f) ∧ w'.cell? ⟨g4, 0, none⟩ = some (.int .i64 (taintL l m o).1.base) ∧ w'.cell? ⟨g4, 1, none⟩ = some (.slice A4 n4 c4) ∧ w'.cell? ⟨w5.heap.size, 0, none⟩ = some (.int .i64 l.base) ∧ w'.cell? ⟨w5.heap.size, 1, none⟩ = some (.slice A5 n5 c5) ∧ w'.cell? ⟨w6.heap.size, 0, none⟩ = some (.int .i64 m.base) ∧ w'.cell? ⟨w6.heap.size, 1, none⟩ = some (.slice A6 n6 c6) ∧ w'.cell? ⟨w7.heap.size, 0, none⟩ = some (.int .i64 o.base) ∧ w'.cell? ⟨w7.heap.size, 1, none⟩ = some (.slice A7 n7 c7) ∧ w'.cell? ⟨w8.heap.size, 0, none⟩ = some (.int .i64 (taintL l m o).1.base) ∧ w'.cell? ⟨w8.heap.size, 1, none⟩ = some (.slice A8 n8 c8))
          (first | exact ⟨kb0, kb1, kb2, kb3, kb4, kb5, kb6, kb7, kb8, kb9, kb10, kb11, kb12, kb13, kb14, kb15⟩ | exact ⟨ka0, ka1, ka2, ka3, ka4, ka5, ka6, ka7, ka8, ka9, ka10, ka11, ka12, ka13, ka14, ka15⟩ | go_keep)
          (first
          | (go_at_call 19
             refine (to_lab _ m _ (hq.below (by first | exact bel | exact bel.drew))).mono ?_
             rintro e w12 ⟨va, rfl, owna, hba⟩
             have ka0 : w12.cell? ⟨w.heap.size, 0, none⟩ = some (.int .i64 l.base) := (hba.cell (by simp; omega)).trans (by exact Pc0)
             have za0 : w.heap.size < w12.heap.size := block_lt_of_cell ka0
             have ka1 : w12.cell? ⟨w.heap.size, 1, none⟩ = some (.slice A n c) := (hba.cell (by simp; omega)).trans (by exact Pc1)
             have za1 : w.heap.size < w12.heap.size := block_lt_of_cell ka1
             have ka2 : w12.cell? ⟨w.heap.size + 1, 0, none⟩ = some (.int .i64 m.base) := (hba.cell (by simp; omega)).trans (by exact Qc0)
             have za2 : w.heap.size + 1 < w12.heap.size := block_lt_of_cell ka2
             have ka3 : w12.cell? ⟨w.heap.size + 1, 1, none⟩ = some (.slice B n' d) := (hba.cell (by simp; omega)).trans (by exact Qc1)
             have za3 : w.heap.size + 1 < w12.heap.size := block_lt_of_cell ka3
             have ka4 : w12.cell? ⟨w.heap.size + 1 + 1, 0, none⟩ = some (.int .i64 o.base) := (hba.cell (by simp; omega)).trans (by exact Uc0)
             have za4 : w.heap.size + 1 + 1 < w12.heap.size := block_lt_of_cell ka4
             have ka5 : w12.cell? ⟨w.heap.size + 1 + 1, 1, none⟩ = some (.slice C n'' f) := (hba.cell (by simp; omega)).trans (by exact Uc1)
             have za5 : w.heap.size + 1 + 1 < w12.heap.size := block_lt_of_cell ka5
             have ka6 : w12.cell? ⟨g4, 0, none⟩ = some (.int .i64 (taintL l m o).1.base) := (hba.cell (by simp; omega)).trans (by exact BWc0)
             have za6 : g4 < w12.heap.size := block_lt_of_cell ka6
             have ka7 : w12.cell? ⟨g4, 1, none⟩ = some (.slice A4 n4 c4) := (hba.cell (by simp; omega)).trans (by exact BWc1)
             have za7 : g4 < w12.heap.size := block_lt_of_cell ka7
             have ka8 : w12.cell? ⟨w5.heap.size, 0, none⟩ = some (.int .i64 l.base) := (hba.cell (by simp; omega)).trans (by exact Cc0)
             have za8 : w5.heap.size < w12.heap.size := block_lt_of_cell ka8
             have ka9 : w12.cell? ⟨w5.heap.size, 1, none⟩ = some (.slice A5 n5 c5) := (hba.cell (by simp; omega)).trans (by exact Cc1)
             have za9 : w5.heap.size < w12.heap.size := block_lt_of_cell ka9
             have ka10 : w12.cell? ⟨w6.heap.size, 0, none⟩ = some (.int .i64 m.base) := (hba.cell (by simp; omega)).trans (by exact Dc0)
             have za10 : w6.heap.size < w12.heap.size := block_lt_of_cell ka10
             have ka11 : w12.cell? ⟨w6.heap.size, 1, none⟩ = some (.slice A6 n6 c6) := (hba.cell (by simp; omega)).trans (by exact Dc1)
             have za11 : w6.heap.size < w12.heap.size := block_lt_of_cell ka11
             have ka12 : w12.cell? ⟨w7.heap.size, 0, none⟩ = some (.int .i64 o.base) := (hba.cell (by simp; omega)).trans (by exact Ec0)
             have za12 : w7.heap.size < w12.heap.size := block_lt_of_cell ka12
             have ka13 : w12.cell? ⟨w7.heap.size, 1, none⟩ = some (.slice A7 n7 c7) := (hba.cell (by simp; omega)).trans (by exact Ec1)
             have za13 : w7.heap.size < w12.heap.size := block_lt_of_cell ka13
             have ka14 : w12.cell? ⟨w8.heap.size, 0, none⟩ = some (.int .i64 (taintL l m o).1.base) := (hba.cell (by simp; omega)).trans (by exact BGc0)
             have za14 : w8.heap.size < w12.heap.size := block_lt_of_cell ka14
             have ka15 : w12.cell? ⟨w8.heap.size, 1, none⟩ = some (.slice A8 n8 c8) := (hba.cell (by simp; omega)).trans (by exact BGc1)
             have za15 : w8.heap.size < w12.heap.size := block_lt_of_cell ka15
             have HBA := Lib.hid hba
             have rda := owna.rd
             have rdx := X1.out.rd.below (by first | exact hba | exact below_undrew hba)
             obtain ⟨Aa, na, ca, rfl, -, -, -⟩ := owna
             clear hba)
          | (go_at_call 20
             refine (eq_lab _ _ m m _ (by exact rdx) (by exact rda)).mono ?_
             rintro e w13 ⟨rfl, hbb⟩
             have kb0 : w13.cell? ⟨w.heap.size, 0, none⟩ = some (.int .i64 l.base) := (hbb.cell (by simp; omega)).trans (by exact ka0)
             have kb1 : w13.cell? ⟨w.heap.size, 1, none⟩ = some (.slice A n c) := (hbb.cell (by simp; omega)).trans (by exact ka1)
             have kb2 : w13.cell? ⟨w.heap.size + 1, 0, none⟩ = some (.int .i64 m.base) := (hbb.cell (by simp; omega)).trans (by exact ka2)
             have kb3 : w13.cell? ⟨w.heap.size + 1, 1, none⟩ = some (.slice B n' d) := (hbb.cell (by simp; omega)).trans (by exact ka3)
             have kb4 : w13.cell? ⟨w.heap.size + 1 + 1, 0, none⟩ = some (.int .i64 o.base) := (hbb.cell (by simp; omega)).trans (by exact ka4)
             have kb5 : w13.cell? ⟨w.heap.size + 1 + 1, 1, none⟩ = some (.slice C n'' f) := (hbb.cell (by simp; omega)).trans (by exact ka5)
             have kb6 : w13.cell? ⟨g4, 0, none⟩ = some (.int .i64 (taintL l m o).1.base) := (hbb.cell (by simp; omega)).trans (by exact ka6)
             have kb7 : w13.cell? ⟨g4, 1, none⟩ = some (.slice A4 n4 c4) := (hbb.cell (by simp; omega)).trans (by exact ka7)
             have kb8 : w13.cell? ⟨w5.heap.size, 0, none⟩ = some (.int .i64 l.base) := (hbb.cell (by simp; omega)).trans (by exact ka8)
             have kb9 : w13.cell? ⟨w5.heap.size, 1, none⟩ = some (.slice A5 n5 c5) := (hbb.cell (by simp; omega)).trans (by exact ka9)
             have kb10 : w13.cell? ⟨w6.heap.size, 0, none⟩ = some (.int .i64 m.base) := (hbb.cell (by simp; omega)).trans (by exact ka10)
             have kb11 : w13.cell? ⟨w6.heap.size, 1, none⟩ = some (.slice A6 n6 c6) := (hbb.cell (by simp; omega)).trans (by exact ka11)
             have kb12 : w13.cell? ⟨w7.heap.size, 0, none⟩ = some (.int .i64 o.base) := (hbb.cell (by simp; omega)).trans (by exact ka12)
             have kb13 : w13.cell? ⟨w7.heap.size, 1, none⟩ = some (.slice A7 n7 c7) := (hbb.cell (by simp; omega)).trans (by exact ka13)
             have kb14 : w13.cell? ⟨w8.heap.size, 0, none⟩ = some (.int .i64 (taintL l m o).1.base) := (hbb.cell (by simp; omega)).trans (by exact ka14)
             have kb15 : w13.cell? ⟨w8.heap.size, 1, none⟩ = some (.slice A8 n8 c8) := (hbb.cell (by simp; omega)).trans (by exact ka15)
             have HBB : Hid (Below w11.heap.size w11 w13) := (by first | exact HBA.out | exact below_undrew HBA.out : Below w11.heap.size w11 w12).trans (hbb.mono (by first | exact HBA.out.size | exact (below_undrew HBA.out).size))
             clear hbb))
        have hb := HBB.out
        clear HBB HBA rda rdx ka0 za0 kb0 ka1 za1 kb1 ka2 za2 kb2 ka3 za3 kb3 ka4 za4 kb4 ka5 za5 kb5 ka6 za6 kb6 ka7 za7 kb7 ka8 za8 kb8 ka9 za9 kb9 ka10 za10 kb10 ka11 za11 kb11 ka12 za12 kb12 ka13 za13 kb13 ka14 za14 kb14 ka15 za15 kb15
        have sz13 : w11.heap.size ≤ w13.heap.size := by have := hb.size; simpa using this
        have Pc0' : w13.cell? ⟨w.heap.size, 0, none⟩ = some (.int .i64 l.base) := (hb.cell (by simp; omega)).trans (by first | exact Pc0 | (simp [go_sem, Pz, Pc0]; done))
        have Pc1' : w13.cell? ⟨w.heap.size, 1, none⟩ = some (.slice A n c) := (hb.cell (by simp; omega)).trans (by first | exact Pc1 | (simp [go_sem, Pz, Pc1]; done))
        have Qc0' : w13.cell? ⟨w.heap.size + 1, 0, none⟩ = some (.int .i64 m.base) := (hb.cell (by simp; omega)).trans (by first | exact Qc0 | (simp [go_sem, Qz, Qc0]; done))
        have Qc1' : w13.cell? ⟨w.heap.size + 1, 1, none⟩ = some (.slice B n' d) := (hb.cell (by simp; omega)).trans (by first | exact Qc1 | (simp [go_sem, Qz, Qc1]; done))
        have Uc0' : w13.cell? ⟨w.heap.size + 1 + 1, 0, none⟩ = some (.int .i64 o.base) := (hb.cell (by simp; omega)).trans (by first | exact Uc0 | (simp [go_sem, Uz, Uc0]; done))
        have Uc1' : w13.cell? ⟨w.heap.size + 1 + 1, 1, none⟩ = some (.slice C n'' f) := (hb.cell (by simp; omega)).trans (by first | exact Uc1 | (simp [go_sem, Uz, Uc1]; done))
        have BWc0' : w13.cell? ⟨g4, 0, none⟩ = some (.int .i64 (taintL l m o).1.base) := (hb.cell (by simp; omega)).trans (by first | exact BWc0 | (simp [go_sem, BWz, BWc0]; done))
        have BWc1' : w13.cell? ⟨g4, 1, none⟩ = some (.slice A4 n4 c4) := (hb.cell (by simp; omega)).trans (by first | exact BWc1 | (simp [go_sem, BWz, BWc1]; done))
        have Cc0' : w13.cell? ⟨w5.heap.size, 0, none⟩ = some (.int .i64 l.base) := (hb.cell (by simp; omega)).trans (by first | exact Cc0 | (simp [go_sem, Cz, Cc0]; done))
        have Cc1' : w13.cell? ⟨w5.heap.size, 1, none⟩ = some (.slice A5 n5 c5) := (hb.cell (by simp; omega)).trans (by first | exact Cc1 | (simp [go_sem, Cz, Cc1]; done))
        have Dc0' : w13.cell? ⟨w6.heap.size, 0, none⟩ = some (.int .i64 m.base) := (hb.cell (by simp; omega)).trans (by first | exact Dc0 | (simp [go_sem, Dz, Dc0]; done))
        have Dc1' : w13.cell? ⟨w6.heap.size, 1, none⟩ = some (.slice A6 n6 c6) := (hb.cell (by simp; omega)).trans (by first | exact Dc1 | (simp [go_sem, Dz, Dc1]; done))
        have Ec0' : w13.cell? ⟨w7.heap.size, 0, none⟩ = some (.int .i64 o.base) := (hb.cell (by simp; omega)).trans (by first | exact Ec0 | (simp [go_sem, Ez, Ec0]; done))
        have Ec1' : w13.cell? ⟨w7.heap.size, 1, none⟩ = some (.slice A7 n7 c7) := (hb.cell (by simp; omega)).trans (by first | exact Ec1 | (simp [go_sem, Ez, Ec1]; done))
        have BGc0' : w13.cell? ⟨w8.heap.size, 0, none⟩ = some (.int .i64 (taintL l m o).1.base) := (hb.cell (by simp; omega)).trans (by first | exact BGc0 | (simp [go_sem, BGz, BGc0]; done))
        have BGc1' : w13.cell? ⟨w8.heap.size, 1, none⟩ = some (.slice A8 n8 c8) := (hb.cell (by simp; omega)).trans (by first | exact BGc1 | (simp [go_sem, BGz, BGc1]; done))
        clear Pc0 Pc1 Qc0 Qc1 Uc0 Uc1 BWc0 BWc1 Cc0 Cc1 Dc0 Dc1 Ec0 Ec1 BGc0 BGc1 Pz Qz Uz BWz Cz Dz Ez BGz
        have Pc0 := Pc0'
        have Pc1 := Pc1'
        have Pz := block_lt_of_cell Pc0
        have Qc0 := Qc0'
        have Qc1 := Qc1'
        have Qz := block_lt_of_cell Qc0
        have Uc0 := Uc0'
        have Uc1 := Uc1'
        have Uz := block_lt_of_cell Uc0
        have BWc0 := BWc0'
        have BWc1 := BWc1'
        have BWz := block_lt_of_cell BWc0
        have Cc0 := Cc0'
        have Cc1 := Cc1'
        have Cz := block_lt_of_cell Cc0
        have Dc0 := Dc0'
        have Dc1 := Dc1'
        have Dz := block_lt_of_cell Dc0
        have Ec0 := Ec0'
        have Ec1 := Ec1'
        have Ez := block_lt_of_cell Ec0
        have BGc0 := BGc0'
        have BGc1 := BGc1'
        have BGz := block_lt_of_cell BGc0
        clear Pc0' Pc1' Qc0' Qc1' Uc0' Uc1' BWc0' BWc1' Cc0' Cc1' Dc0' Dc1' Ec0' Ec1' BGc0' BGc1'
        have W0' := Lib.hid (by first | exact W0.out.below hb | exact W0.out.over hb | exact W0.out.below (below_undrew hb))
        clear W0
        have W0 := W0'
        clear W0'
        have X0' := Lib.hid (by first | exact X0.out.below hb | exact X0.out.over hb | exact X0.out.below (below_undrew hb))
        clear X0
        have X0 := X0'
        clear X0'
        have X1' := Lib.hid (by first | exact X1.out.below hb | exact X1.out.over hb | exact X1.out.below (below_undrew hb))
        clear X1
        have X1 := X1'
        clear X1'
        have X2' := Lib.hid (by first | exact X2.out.below hb | exact X2.out.over hb | exact X2.out.below (below_undrew hb))
        clear X2
        have X2 := X2'
        clear X2'
        have G0' := Lib.hid (by first | exact G0.out.below hb | exact G0.out.over hb | exact G0.out.below (below_undrew hb))
        clear G0
        have G0 := G0'
        clear G0'
        have bel' : Below w.heap.size w w13 := bel.trans ((by first | exact hb | exact over_alloc hb | exact below_undrew hb : Below w11.heap.size w11 w13).mono bel.size)
        clear bel hb
        have bel := bel'
        clear bel'
        have heqo := labEq_rfl o
        go_wp2
        go_region_held3 (fun w' => w'.cell? ⟨w.heap.size, 0, none⟩ = some (.int .i64 l.base) ∧ w'.cell? ⟨w.heap.size, 1, none⟩ = some (.slice A n c) ∧ w'.cell? ⟨w.heap.size + 1, 0, none⟩ = some (.int .i64 m.base) ∧ w'.cell? ⟨w.heap.size + 1, 1, none⟩ = some (.slice B n' d) ∧ w'.cell? ⟨w.heap.size + 1 + 1, 0, none⟩ = some (.int .i64 o.base) ∧ w'.cell? ⟨w.heap.size + 1 + 1, 1, none⟩ = some (.slice C n'' f) ∧ w'.cell? ⟨g4, 0, none⟩ = some (.int .i64 (taintL l m o).1.base) ∧ w'.cell? ⟨g4, 1, none⟩ = some (.slice A4 n4 c4) ∧ w'.cell? ⟨w5.heap.size, 0, none⟩ = some (.int .i64 l.base) ∧ w'.cell? ⟨w5.heap.size, 1, none⟩ = some (.slice A5 n5 c5) ∧ w'.cell? ⟨w6.heap.size, 0, none⟩ = some (.int .i64 m.base) ∧ w'.cell? ⟨w6.heap.size, 1, none⟩ = some (.slice A6 n6 c6) ∧ w'.cell? ⟨w7.heap.size, 0, none⟩ = some (.int .i64 o.base) ∧ w'.cell? ⟨w7.heap.size, 1, none⟩ = some (.slice A7 n7 c7) ∧ w'.cell? ⟨w8.heap.size, 0, none⟩ = some (.int .i64 (taintL l m o).1.base) ∧ w'.cell? ⟨w8.heap.size, 1, none⟩ = some (.slice A8 n8 c8))
          (first | exact ⟨kb0, kb1, kb2, kb3, kb4, kb5, kb6, kb7, kb8, kb9, kb10, kb11, kb12, kb13, kb14, kb15⟩ | exact ⟨ka0, ka1, ka2, ka3, ka4, ka5, ka6, ka7, ka8, ka9, ka10, ka11, ka12, ka13, ka14, ka15⟩ | go_keep)
          (first
          | (go_at_call 19
             refine (to_lab _ o _ (hu.below (by first | exact bel | exact bel.drew))).mono ?_
             rintro e w14 ⟨va, rfl, owna, hba⟩
             have ka0 : w14.cell? ⟨w.heap.size, 0, none⟩ = some (.int .i64 l.base) := (hba.cell (by simp; omega)).trans (by exact Pc0)
             have za0 : w.heap.size < w14.heap.size := block_lt_of_cell ka0
             have ka1 : w14.cell? ⟨w.heap.size, 1, none⟩ = some (.slice A n c) := (hba.cell (by simp; omega)).trans (by exact Pc1)
             have za1 : w.heap.size < w14.heap.size := block_lt_of_cell ka1
             have ka2 : w14.cell? ⟨w.heap.size + 1, 0, none⟩ = some (.int .i64 m.base) := (hba.cell (by simp; omega)).trans (by exact Qc0)
             have za2 : w.heap.size + 1 < w14.heap.size := block_lt_of_cell ka2
             have ka3 : w14.cell? ⟨w.heap.size + 1, 1, none⟩ = some (.slice B n' d) := (hba.cell (by simp; omega)).trans (by exact Qc1)
             have za3 : w.heap.size + 1 < w14.heap.size := block_lt_of_cell ka3
             have ka4 : w14.cell? ⟨w.heap.size + 1 + 1, 0, none⟩ = some (.int .i64 o.base) := (hba.cell (by simp; omega)).trans (by exact Uc0)
             have za4 : w.heap.size + 1 + 1 < w14.heap.size := block_lt_of_cell ka4
             have ka5 : w14.cell? ⟨w.heap.size + 1 + 1, 1, none⟩ = some (.slice C n'' f) := (hba.cell (by simp; omega)).trans (by exact Uc1)
             have za5 : w.heap.size + 1 + 1 < w14.heap.size := block_lt_of_cell ka5
             have ka6 : w14.cell? ⟨g4, 0, none⟩ = some (.int .i64 (taintL l m o).1.base) := (hba.cell (by simp; omega)).trans (by exact BWc0)
             have za6 : g4 < w14.heap.size := block_lt_of_cell ka6
             have ka7 : w14.cell? ⟨g4, 1, none⟩ = some (.slice A4 n4 c4) := (hba.cell (by simp; omega)).trans (by exact BWc1)
             have za7 : g4 < w14.heap.size := block_lt_of_cell ka7
             have ka8 : w14.cell? ⟨w5.heap.size, 0, none⟩ = some (.int .i64 l.base) := (hba.cell (by simp; omega)).trans (by exact Cc0)
             have za8 : w5.heap.size < w14.heap.size := block_lt_of_cell ka8
             have ka9 : w14.cell? ⟨w5.heap.size, 1, none⟩ = some (.slice A5 n5 c5) := (hba.cell (by simp; omega)).trans (by exact Cc1)
             have za9 : w5.heap.size < w14.heap.size := block_lt_of_cell ka9
             have ka10 : w14.cell? ⟨w6.heap.size, 0, none⟩ = some (.int .i64 m.base) := (hba.cell (by simp; omega)).trans (by exact Dc0)
             have za10 : w6.heap.size < w14.heap.size := block_lt_of_cell ka10
             have ka11 : w14.cell? ⟨w6.heap.size, 1, none⟩ = some (.slice A6 n6 c6) := (hba.cell (by simp; omega)).trans (by exact Dc1)
             have za11 : w6.heap.size < w14.heap.size := block_lt_of_cell ka11
             have ka12 : w14.cell? ⟨w7.heap.size, 0, none⟩ = some (.int .i64 o.base) := (hba.cell (by simp; omega)).trans (by exact Ec0)
             have za12 : w7.heap.size < w14.heap.size := block_lt_of_cell ka12
             have ka13 : w14.cell? ⟨w7.heap.size, 1, none⟩ = some (.slice A7 n7 c7) := (hba.cell (by simp; omega)).trans (by exact Ec1)
             have za13 : w7.heap.size < w14.heap.size := block_lt_of_cell ka13
             have ka14 : w14.cell? ⟨w8.heap.size, 0, none⟩ = some (.int .i64 (taintL l m o).1.base) := (hba.cell (by simp; omega)).trans (by exact BGc0)
             have za14 : w8.heap.size < w14.heap.size := block_lt_of_cell ka14
             have ka15 : w14.cell? ⟨w8.heap.size, 1, none⟩ = some (.slice A8 n8 c8) := (hba.cell (by simp; omega)).trans (by exact BGc1)
             have za15 : w8.heap.size < w14.heap.size := block_lt_of_cell ka15
             have HBA := Lib.hid hba
             have rda := owna.rd
             have rdx := X2.out.rd.below (by first | exact hba | exact below_undrew hba)
             obtain ⟨Aa, na, ca, rfl, -, -, -⟩ := owna
             clear hba)
          | (go_at_call 20
             refine (eq_lab _ _ o o _ (by exact rdx) (by exact rda)).mono ?_
             rintro e w15 ⟨rfl, hbb⟩
             have kb0 : w15.cell? ⟨w.heap.size, 0, none⟩ = some (.int .i64 l.base) := (hbb.cell (by simp; omega)).trans (by exact ka0)
             have kb1 : w15.cell? ⟨w.heap.size, 1, none⟩ = some (.slice A n c) := (hbb.cell (by simp; omega)).trans (by exact ka1)
             have kb2 : w15.cell? ⟨w.heap.size + 1, 0, none⟩ = some (.int .i64 m.base) := (hbb.cell (by simp; omega)).trans (by exact ka2)
             have kb3 : w15.cell? ⟨w.heap.size + 1, 1, none⟩ = some (.slice B n' d) := (hbb.cell (by simp; omega)).trans (by exact ka3)
             have kb4 : w15.cell? ⟨w.heap.size + 1 + 1, 0, none⟩ = some (.int .i64 o.base) := (hbb.cell (by simp; omega)).trans (by exact ka4)
             have kb5 : w15.cell? ⟨w.heap.size + 1 + 1, 1, none⟩ = some (.slice C n'' f) := (hbb.cell (by simp; omega)).trans (by exact ka5)
             have kb6 : w15.cell? ⟨g4, 0, none⟩ = some (.int .i64 (taintL l m o).1.base) := (hbb.cell (by simp; omega)).trans (by exact ka6)
             have kb7 : w15.cell? ⟨g4, 1, none⟩ = some (.slice A4 n4 c4) := (hbb.cell (by simp; omega)).trans (by exact ka7)
             have kb8 : w15.cell? ⟨w5.heap.size, 0, none⟩ = some (.int .i64 l.base) := (hbb.cell (by simp; omega)).trans (by exact ka8)
             have kb9 : w15.cell? ⟨w5.heap.size, 1, none⟩ = some (.slice A5 n5 c5) := (hbb.cell (by simp; omega)).trans (by exact ka9)
             have kb10 : w15.cell? ⟨w6.heap.size, 0, none⟩ = some (.int .i64 m.base) := (hbb.cell (by simp; omega)).trans (by exact ka10)
             have kb11 : w15.cell? ⟨w6.heap.size, 1, none⟩ = some (.slice A6 n6 c6) := (hbb.cell (by simp; omega)).trans (by exact ka11)
             have kb12 : w15.cell? ⟨w7.heap.size, 0, none⟩ = some (.int .i64 o.base) := (hbb.cell (by simp; omega)).trans (by exact ka12)
             have kb13 : w15.cell? ⟨w7.heap.size, 1, none⟩ = some (.slice A7 n7 c7) := (hbb.cell (by simp; omega)).trans (by exact ka13)
             have kb14 : w15.cell? ⟨w8.heap.size, 0, none⟩ = some (.int .i64 (taintL l m o).1.base) := (hbb.cell (by simp; omega)).trans (by exact ka14)
             have kb15 : w15.cell? ⟨w8.heap.size, 1, none⟩ = some (.slice A8 n8 c8) := (hbb.cell (by simp; omega)).trans (by exact ka15)
             have HBB : Hid (Below w13.heap.size w13 w15) := (by first | exact HBA.out | exact below_undrew HBA.out : Below w13.heap.size w13 w14).trans (hbb.mono (by first | exact HBA.out.size | exact (below_undrew HBA.out).size))
             clear hbb))
        have hb := HBB.out
        clear HBB HBA rda rdx ka0 za0 kb0 ka1 za1 kb1 ka2 za2 kb2 ka3 za3 kb3 ka4 za4 kb4 ka5 za5 kb5 ka6 za6 kb6 ka7 za7 kb7 ka8 za8 kb8 ka9 za9 kb9 ka10 za10 kb10 ka11 za11 kb11 ka12 za12 kb12 ka13 za13 kb13 ka14 za14 kb14 ka15 za15 kb15
        have sz15 : w13.heap.size ≤ w15.heap.size := by have := hb.size; simpa using this
        have Pc0' : w15.cell? ⟨w.heap.size, 0, none⟩ = some (.int .i64 l.base) := (hb.cell (by simp; omega)).trans (by first | exact Pc0 | (simp [go_sem, Pz, Pc0]; done))
        have Pc1' : w15.cell? ⟨w.heap.size, 1, none⟩ = some (.slice A n c) := (hb.cell (by simp; omega)).trans (by first | exact Pc1 | (simp [go_sem, Pz, Pc1]; done))
        have Qc0' : w15.cell? ⟨w.heap.size + 1, 0, none⟩ = some (.int .i64 m.base) := (hb.cell (by simp; omega)).trans (by first | exact Qc0 | (simp [go_sem, Qz, Qc0]; done))
        have Qc1' : w15.cell? ⟨w.heap.size + 1, 1, none⟩ = some (.slice B n' d) := (hb.cell (by simp; omega)).trans (by first | exact Qc1 | (simp [go_sem, Qz, Qc1]; done))
        have Uc0' : w15.cell? ⟨w.heap.size + 1 + 1, 0, none⟩ = some (.int .i64 o.base) := (hb.cell (by simp; omega)).trans (by first | exact Uc0 | (simp [go_sem, Uz, Uc0]; done))
        have Uc1' : w15.cell? ⟨w.heap.size + 1 + 1, 1, none⟩ = some (.slice C n'' f) := (hb.cell (by simp; omega)).trans (by first | exact Uc1 | (simp [go_sem, Uz, Uc1]; done))
        have BWc0' : w15.cell? ⟨g4, 0, none⟩ = some (.int .i64 (taintL l m o).1.base) := (hb.cell (by simp; omega)).trans (by first | exact BWc0 | (simp [go_sem, BWz, BWc0]; done))
        have BWc1' : w15.cell? ⟨g4, 1, none⟩ = some (.slice A4 n4 c4) := (hb.cell (by simp; omega)).trans (by first | exact BWc1 | (simp [go_sem, BWz, BWc1]; done))
        have Cc0' : w15.cell? ⟨w5.heap.size, 0, none⟩ = some (.int .i64 l.base) := (hb.cell (by simp; omega)).trans (by first | exact Cc0 | (simp [go_sem, Cz, Cc0]; done))
        have Cc1' : w15.cell? ⟨w5.heap.size, 1, none⟩ = some (.slice A5 n5 c5) := (hb.cell (by simp; omega)).trans (by first | exact Cc1 | (simp [go_sem, Cz, Cc1]; done))
        have Dc0' : w15.cell? ⟨w6.heap.size, 0, none⟩ = some (.int .i64 m.base) := (hb.cell (by simp; omega)).trans (by first | exact Dc0 | (simp [go_sem, Dz, Dc0]; done))
        have Dc1' : w15.cell? ⟨w6.heap.size, 1, none⟩ = some (.slice A6 n6 c6) := (hb.cell (by simp; omega)).trans (by first | exact Dc1 | (simp [go_sem, Dz, Dc1]; done))
        have Ec0' : w15.cell? ⟨w7.heap.size, 0, none⟩ = some (.int .i64 o.base) := (hb.cell (by simp; omega)).trans (by first | exact Ec0 | (simp [go_sem, Ez, Ec0]; done))
        have Ec1' : w15.cell? ⟨w7.heap.size, 1, none⟩ = some (.slice A7 n7 c7) := (hb.cell (by simp; omega)).trans (by first | exact Ec1 | (simp [go_sem, Ez, Ec1]; done))
        have BGc0' : w15.cell? ⟨w8.heap.size, 0, none⟩ = some (.int .i64 (taintL l m o).1.base) := (hb.cell (by simp; omega)).trans (by first | exact BGc0 | (simp [go_sem, BGz, BGc0]; done))
        have BGc1' : w15.cell? ⟨w8.heap.size, 1, none⟩ = some (.slice A8 n8 c8) := (hb.cell (by simp; omega)).trans (by first | exact BGc1 | (simp [go_sem, BGz, BGc1]; done))
        clear Pc0 Pc1 Qc0 Qc1 Uc0 Uc1 BWc0 BWc1 Cc0 Cc1 Dc0 Dc1 Ec0 Ec1 BGc0 BGc1 Pz Qz Uz BWz Cz Dz Ez BGz
        have Pc0 := Pc0'
        have Pc1 := Pc1'
        have Pz := block_lt_of_cell Pc0
        have Qc0 := Qc0'
        have Qc1 := Qc1'
        have Qz := block_lt_of_cell Qc0
        have Uc0 := Uc0'
        have Uc1 := Uc1'
        have Uz := block_lt_of_cell Uc0
        have BWc0 := BWc0'
        have BWc1 := BWc1'
        have BWz := block_lt_of_cell BWc0
        have Cc0 := Cc0'
        have Cc1 := Cc1'
        have Cz := block_lt_of_cell Cc0
        have Dc0 := Dc0'
        have Dc1 := Dc1'
        have Dz := block_lt_of_cell Dc0
        have Ec0 := Ec0'
        have Ec1 := Ec1'
        have Ez := block_lt_of_cell Ec0
        have BGc0 := BGc0'
        have BGc1 := BGc1'
        have BGz := block_lt_of_cell BGc0
        clear Pc0' Pc1' Qc0' Qc1' Uc0' Uc1' BWc0' BWc1' Cc0' Cc1' Dc0' Dc1' Ec0' Ec1' BGc0' BGc1'
        have W0' := Lib.hid (by first | exact W0.out.below hb | exact W0.out.over hb | exact W0.out.below (below_undrew hb))
        clear W0
        have W0 := W0'
        clear W0'
        have X0' := Lib.hid (by first | exact X0.out.below hb | exact X0.out.over hb | exact X0.out.below (below_undrew hb))
        clear X0
        have X0 := X0'
        clear X0'
        have X1' := Lib.hid (by first | exact X1.out.below hb | exact X1.out.over hb | exact X1.out.below (below_undrew hb))
        clear X1
        have X1 := X1'
        clear X1'
        have X2' := Lib.hid (by first | exact X2.out.below hb | exact X2.out.over hb | exact X2.out.below (below_undrew hb))
        clear X2
        have X2 := X2'
        clear X2'
        have G0' := Lib.hid (by first | exact G0.out.below hb | exact G0.out.over hb | exact G0.out.below (below_undrew hb))
        clear G0
        have G0 := G0'
        clear G0'
        have bel' : Below w.heap.size w w15 := bel.trans ((by first | exact hb | exact over_alloc hb | exact below_undrew hb : Below w13.heap.size w13 w15).mono bel.size)
        clear bel hb
        have bel := bel'
        clear bel'
        go_wp2_with fail
        refine (mark_lab _ l _ _ _ (by omega) (by omega) X0.out).mono ?_
        rintro e w16 ⟨rfl, own, hg⟩
        have sz16 : w15.heap.size ≤ w16.heap.size := hg.size
        have Pc0' : w16.cell? ⟨w.heap.size, 0, none⟩ = some (.int .i64 l.base) := hg.cell Pc0 (fun e => by have := X0r.out (w.heap.size) e.symm; omega)
        have Pc1' : w16.cell? ⟨w.heap.size, 1, none⟩ = some (.slice A n c) := hg.cell Pc1 (fun e => by have := X0r.out (w.heap.size) e.symm; omega)
        have Qc0' : w16.cell? ⟨w.heap.size + 1, 0, none⟩ = some (.int .i64 m.base) := hg.cell Qc0 (fun e => by have := X0r.out (w.heap.size + 1) e.symm; omega)
        have Qc1' : w16.cell? ⟨w.heap.size + 1, 1, none⟩ = some (.slice B n' d) := hg.cell Qc1 (fun e => by have := X0r.out (w.heap.size + 1) e.symm; omega)
        have Uc0' : w16.cell? ⟨w.heap.size + 1 + 1, 0, none⟩ = some (.int .i64 o.base) := hg.cell Uc0 (fun e => by have := X0r.out (w.heap.size + 1 + 1) e.symm; omega)
        have Uc1' : w16.cell? ⟨w.heap.size + 1 + 1, 1, none⟩ = some (.slice C n'' f) := hg.cell Uc1 (fun e => by have := X0r.out (w.heap.size + 1 + 1) e.symm; omega)
        have BWc0' : w16.cell? ⟨g4, 0, none⟩ = some (.int .i64 (taintL l m o).1.base) := hg.cell BWc0 (fun e => by have := X0r.out (g4) e.symm; omega)
        have BWc1' : w16.cell? ⟨g4, 1, none⟩ = some (.slice A4 n4 c4) := hg.cell BWc1 (fun e => by have := X0r.out (g4) e.symm; omega)
        have Cc0' : w16.cell? ⟨w5.heap.size, 0, none⟩ = some (.int .i64 l.base) := hg.cell Cc0 (fun e => by have := X0r.out (w5.heap.size) e.symm; omega)
        have Cc1' : w16.cell? ⟨w5.heap.size, 1, none⟩ = some (.slice A5 n5 c5) := hg.cell Cc1 (fun e => by have := X0r.out (w5.heap.size) e.symm; omega)
        have Dc0' : w16.cell? ⟨w6.heap.size, 0, none⟩ = some (.int .i64 m.base) := hg.cell Dc0 (fun e => by have := X0r.out (w6.heap.size) e.symm; omega)
        have Dc1' : w16.cell? ⟨w6.heap.size, 1, none⟩ = some (.slice A6 n6 c6) := hg.cell Dc1 (fun e => by have := X0r.out (w6.heap.size) e.symm; omega)
        have Ec0' : w16.cell? ⟨w7.heap.size, 0, none⟩ = some (.int .i64 o.base) := hg.cell Ec0 (fun e => by have := X0r.out (w7.heap.size) e.symm; omega)
        have Ec1' : w16.cell? ⟨w7.heap.size, 1, none⟩ = some (.slice A7 n7 c7) := hg.cell Ec1 (fun e => by have := X0r.out (w7.heap.size) e.symm; omega)
        have BGc0' : w16.cell? ⟨w8.heap.size, 0, none⟩ = some (.int .i64 (taintL l m o).1.base) := hg.cell BGc0 (fun e => by have := X0r.out (w8.heap.size) e.symm; omega)
        have BGc1' : w16.cell? ⟨w8.heap.size, 1, none⟩ = some (.slice A8 n8 c8) := hg.cell BGc1 (fun e => by have := X0r.out (w8.heap.size) e.symm; omega)
        clear Pc0 Pc1 Qc0 Qc1 Uc0 Uc1 BWc0 BWc1 Cc0 Cc1 Dc0 Dc1 Ec0 Ec1 BGc0 BGc1 Pz Qz Uz BWz Cz Dz Ez BGz
        have Pc0 := Pc0'
        have Pc1 := Pc1'
        have Pz := block_lt_of_cell Pc0
        have Qc0 := Qc0'
        have Qc1 := Qc1'
        have Qz := block_lt_of_cell Qc0
        have Uc0 := Uc0'
        have Uc1 := Uc1'
        have Uz := block_lt_of_cell Uc0
        have BWc0 := BWc0'
        have BWc1 := BWc1'
        have BWz := block_lt_of_cell BWc0
        have Cc0 := Cc0'
        have Cc1 := Cc1'
        have Cz := block_lt_of_cell Cc0
        have Dc0 := Dc0'
        have Dc1 := Dc1'
        have Dz := block_lt_of_cell Dc0
        have Ec0 := Ec0'
        have Ec1 := Ec1'
        have Ez := block_lt_of_cell Ec0
        have BGc0 := BGc0'
        have BGc1 := BGc1'
        have BGz := block_lt_of_cell BGc0
        clear Pc0' Pc1' Qc0' Qc1' Uc0' Uc1' BWc0' BWc1' Cc0' Cc1' Dc0' Dc1' Ec0' Ec1' BGc0' BGc1'
        have W0' := Lib.hid (W0.out.keptBy hg (fun k hk e => by have := X0r.out _ e; have := W0r.out _ hk; omega))
        clear W0
        have W0 := W0'
        clear W0'
        have X1' := Lib.hid (X1.out.keptBy hg (fun k hk e => by have := X0r.out _ e; have := X1r.out _ hk; omega))
        clear X1
        have X1 := X1'
        clear X1'
        have X2' := Lib.hid (X2.out.keptBy hg (fun k hk e => by have := X0r.out _ e; have := X2r.out _ hk; omega))
        clear X2
        have X2 := X2'
        clear X2'
        have G0' := Lib.hid (G0.out.keptBy hg (fun k hk e => by have := X0r.out _ e; have := G0r.out _ hk; omega))
        clear G0
        have G0 := G0'
        clear G0'
        clear X0
        have X0 := Lib.hid own
        have bel' : Below w.heap.size w w16 := bel.grown hg bel.size (fun k hk => by have := X0r.out _ hk; omega)
        clear bel hg own
        have bel := bel'
        clear bel'
        go_wp2_with fail
        refine (mark_lab _ m _ _ _ (by omega) (by omega) X1.out).mono ?_
        rintro e w17 ⟨rfl, own, hg⟩
        have sz17 : w16.heap.size ≤ w17.heap.size := hg.size
        have Pc0' : w17.cell? ⟨w.heap.size, 0, none⟩ = some (.int .i64 l.base) := hg.cell Pc0 (fun e => by have := X1r.out (w.heap.size) e.symm; omega)
        have Pc1' : w17.cell? ⟨w.heap.size, 1, none⟩ = some (.slice A n c) := hg.cell Pc1 (fun e => by have := X1r.out (w.heap.size) e.symm; omega)
        have Qc0' : w17.cell? ⟨w.heap.size + 1, 0, none⟩ = some (.int .i64 m.base) := hg.cell Qc0 (fun e => by have := X1r.out (w.heap.size + 1) e.symm; omega)
        have Qc1' : w17.cell? ⟨w.heap.size + 1, 1, none⟩ = some (.slice B n' d) := hg.cell Qc1 (fun e => by have := X1r.out (w.heap.size + 1) e.symm; omega)
        have Uc0' : w17.cell? ⟨w.heap.size + 1 + 1, 0, none⟩ = some (.int .i64 o.base) := hg.cell Uc0 (fun e => by have := X1r.out (w.heap.size + 1 + 1) e.symm; omega)
        have Uc1' : w17.cell? ⟨w.heap.size + 1 + 1, 1, none⟩ = some (.slice C n'' f) := hg.cell Uc1 (fun e => by have := X1r.out (w.heap.size + 1 + 1) e.symm; omega)
        have BWc0' : w17.cell? ⟨g4, 0, none⟩ = some (.int .i64 (taintL l m o).1.base) := hg.cell BWc0 (fun e => by have := X1r.out (g4) e.symm; omega)
        have BWc1' : w17.cell? ⟨g4, 1, none⟩ = some (.slice A4 n4 c4) := hg.cell BWc1 (fun e => by have := X1r.out (g4) e.symm; omega)
        have Cc0' : w17.cell? ⟨w5.heap.size, 0, none⟩ = some (.int .i64 l.base) := hg.cell Cc0 (fun e => by have := X1r.out (w5.heap.size) e.symm; omega)
        have Cc1' : w17.cell? ⟨w5.heap.size, 1, none⟩ = some (.slice A5 n5 c5) := hg.cell Cc1 (fun e => by have := X1r.out (w5.heap.size) e.symm; omega)
        have Dc0' : w17.cell? ⟨w6.heap.size, 0, none⟩ = some (.int .i64 m.base) := hg.cell Dc0 (fun e => by have := X1r.out (w6.heap.size) e.symm; omega)
        have Dc1' : w17.cell? ⟨w6.heap.size, 1, none⟩ = some (.slice A6 n6 c6) := hg.cell Dc1 (fun e => by have := X1r.out (w6.heap.size) e.symm; omega)
        have Ec0' : w17.cell? ⟨w7.heap.size, 0, none⟩ = some (.int .i64 o.base) := hg.cell Ec0 (fun e => by have := X1r.out (w7.heap.size) e.symm; omega)
        have Ec1' : w17.cell? ⟨w7.heap.size, 1, none⟩ = some (.slice A7 n7 c7) := hg.cell Ec1 (fun e => by have := X1r.out (w7.heap.size) e.symm; omega)
        have BGc0' : w17.cell? ⟨w8.heap.size, 0, none⟩ = some (.int .i64 (taintL l m o).1.base) := hg.cell BGc0 (fun e => by have := X1r.out (w8.heap.size) e.symm; omega)
        have BGc1' : w17.cell? ⟨w8.heap.size, 1, none⟩ = some (.slice A8 n8 c8) := hg.cell BGc1 (fun e => by have := X1r.out (w8.heap.size) e.symm; omega)
        clear Pc0 Pc1 Qc0 Qc1 Uc0 Uc1 BWc0 BWc1 Cc0 Cc1 Dc0 Dc1 Ec0 Ec1 BGc0 BGc1 Pz Qz Uz BWz Cz Dz Ez BGz
        have Pc0 := Pc0'
        have Pc1 := Pc1'
        have Pz := block_lt_of_cell Pc0
        have Qc0 := Qc0'
        have Qc1 := Qc1'
        have Qz := block_lt_of_cell Qc0
        have Uc0 := Uc0'
        have Uc1 := Uc1'
        have Uz := block_lt_of_cell Uc0
        have BWc0 := BWc0'
        have BWc1 := BWc1'
        have BWz := block_lt_of_cell BWc0
        have Cc0 := Cc0'
        have Cc1 := Cc1'
        have Cz := block_lt_of_cell Cc0
        have Dc0 := Dc0'
        have Dc1 := Dc1'
        have Dz := block_lt_of_cell Dc0
        have Ec0 := Ec0'
        have Ec1 := Ec1'
        have Ez := block_lt_of_cell Ec0
        have BGc0 := BGc0'
        have BGc1 := BGc1'
        have BGz := block_lt_of_cell BGc0
        clear Pc0' Pc1' Qc0' Qc1' Uc0' Uc1' BWc0' BWc1' Cc0' Cc1' Dc0' Dc1' Ec0' Ec1' BGc0' BGc1'
        have W0' := Lib.hid (W0.out.keptBy hg (fun k hk e => by have := X1r.out _ e; have := W0r.out _ hk; omega))
        clear W0
        have W0 := W0'
        clear W0'
        have X0' := Lib.hid (X0.out.keptBy hg (fun k hk e => by have := X1r.out _ e; have := X0r.out _ hk; omega))
        clear X0
        have X0 := X0'
        clear X0'
        have X2' := Lib.hid (X2.out.keptBy hg (fun k hk e => by have := X1r.out _ e; have := X2r.out _ hk; omega))
        clear X2
        have X2 := X2'
        clear X2'
        have G0' := Lib.hid (G0.out.keptBy hg (fun k hk e => by have := X1r.out _ e; have := G0r.out _ hk; omega))
        clear G0
        have G0 := G0'
        clear G0'
        clear X1
        have X1 := Lib.hid own
        have bel' : Below w.heap.size w w17 := bel.grown hg bel.size (fun k hk => by have := X1r.out _ hk; omega)
        clear bel hg own
        have bel := bel'
        clear bel'
        go_wp2_with fail
        refine (mark_lab _ o _ _ _ (by omega) (by omega) X2.out).mono ?_
        rintro e w18 ⟨rfl, own, hg⟩
        have sz18 : w17.heap.size ≤ w18.heap.size := hg.size
        have Pc0' : w18.cell? ⟨w.heap.size, 0, none⟩ = some (.int .i64 l.base) := hg.cell Pc0 (fun e => by have := X2r.out (w.heap.size) e.symm; omega)
        have Pc1' : w18.cell? ⟨w.heap.size, 1, none⟩ = some (.slice A n c) := hg.cell Pc1 (fun e => by have := X2r.out (w.heap.size) e.symm; omega)
        have Qc0' : w18.cell? ⟨w.heap.size + 1, 0, none⟩ = some (.int .i64 m.base) := hg.cell Qc0 (fun e => by have := X2r.out (w.heap.size + 1) e.symm; omega)
        have Qc1' : w18.cell? ⟨w.heap.size + 1, 1, none⟩ = some (.slice B n' d) := hg.cell Qc1 (fun e => by have := X2r.out (w.heap.size + 1) e.symm; omega)
        have Uc0' : w18.cell? ⟨w.heap.size + 1 + 1, 0, none⟩ = some (.int .i64 o.base) := hg.cell Uc0 (fun e => by have := X2r.out (w.heap.size + 1 + 1) e.symm; omega)
        have Uc1' : w18.cell? ⟨w.heap.size + 1 + 1, 1, none⟩ = some (.slice C n'' f) := hg.cell Uc1 (fun e => by have := X2r.out (w.heap.size + 1 + 1) e.symm; omega)
        have BWc0' : w18.cell? ⟨g4, 0, none⟩ = some (.int .i64 (taintL l m o).1.base) := hg.cell BWc0 (fun e => by have := X2r.out (g4) e.symm; omega)
        have BWc1' : w18.cell? ⟨g4, 1, none⟩ = some (.slice A4 n4 c4) := hg.cell BWc1 (fun e => by have := X2r.out (g4) e.symm; omega)
        have Cc0' : w18.cell? ⟨w5.heap.size, 0, none⟩ = some (.int .i64 l.base) := hg.cell Cc0 (fun e => by have := X2r.out (w5.heap.size) e.symm; omega)
        have Cc1' : w18.cell? ⟨w5.heap.size, 1, none⟩ = some (.slice A5 n5 c5) := hg.cell Cc1 (fun e => by have := X2r.out (w5.heap.size) e.symm; omega)
        have Dc0' : w18.cell? ⟨w6.heap.size, 0, none⟩ = some (.int .i64 m.base) := hg.cell Dc0 (fun e => by have := X2r.out (w6.heap.size) e.symm; omega)
        have Dc1' : w18.cell? ⟨w6.heap.size, 1, none⟩ = some (.slice A6 n6 c6) := hg.cell Dc1 (fun e => by have := X2r.out (w6.heap.size) e.symm; omega)
        have Ec0' : w18.cell? ⟨w7.heap.size, 0, none⟩ = some (.int .i64 o.base) := hg.cell Ec0 (fun e => by have := X2r.out (w7.heap.size) e.symm; omega)
        have Ec1' : w18.cell? ⟨w7.heap.size, 1, none⟩ = some (.slice A7 n7 c7) := hg.cell Ec1 (fun e => by have := X2r.out (w7.heap.size) e.symm; omega)
        have BGc0' : w18.cell? ⟨w8.heap.size, 0, none⟩ = some (.int .i64 (taintL l m o).1.base) := hg.cell BGc0 (fun e => by have := X2r.out (w8.heap.size) e.symm; omega)
        have BGc1' : w18.cell? ⟨w8.heap.size, 1, none⟩ = some (.slice A8 n8 c8) := hg.cell BGc1 (fun e => by have := X2r.out (w8.heap.size) e.symm; omega)
        clear Pc0 Pc1 Qc0 Qc1 Uc0 Uc1 BWc0 BWc1 Cc0 Cc1 Dc0 Dc1 Ec0 Ec1 BGc0 BGc1 Pz Qz Uz BWz Cz Dz Ez BGz
        have Pc0 := Pc0'
        have Pc1 := Pc1'
        have Pz := block_lt_of_cell Pc0
        have Qc0 := Qc0'
        have Qc1 := Qc1'
        have Qz := block_lt_of_cell Qc0
        have Uc0 := Uc0'
        have Uc1 := Uc1'
        have Uz := block_lt_of_cell Uc0
        have BWc0 := BWc0'
        have BWc1 := BWc1'
        have BWz := block_lt_of_cell BWc0
        have Cc0 := Cc0'
        have Cc1 := Cc1'
        have Cz := block_lt_of_cell Cc0
        have Dc0 := Dc0'
        have Dc1 := Dc1'
        have Dz := block_lt_of_cell Dc0
        have Ec0 := Ec0'
        have Ec1 := Ec1'
        have Ez := block_lt_of_cell Ec0
        have BGc0 := BGc0'
        have BGc1 := BGc1'
        have BGz := block_lt_of_cell BGc0
        clear Pc0' Pc1' Qc0' Qc1' Uc0' Uc1' BWc0' BWc1' Cc0' Cc1' Dc0' Dc1' Ec0' Ec1' BGc0' BGc1'
        have W0' := Lib.hid (W0.out.keptBy hg (fun k hk e => by have := X2r.out _ e; have := W0r.out _ hk; omega))
        clear W0
        have W0 := W0'
        clear W0'
        have X0' := Lib.hid (X0.out.keptBy hg (fun k hk e => by have := X2r.out _ e; have := X0r.out _ hk; omega))
        clear X0
        have X0 := X0'
        clear X0'
        have X1' := Lib.hid (X1.out.keptBy hg (fun k hk e => by have := X2r.out _ e; have := X1r.out _ hk; omega))
        clear X1
        have X1 := X1'
        clear X1'
        have G0' := Lib.hid (G0.out.keptBy hg (fun k hk e => by have := X2r.out _ e; have := G0r.out _ hk; omega))
        clear G0
        have G0 := G0'
        clear G0'
        clear X2
        have X2 := Lib.hid own
        have bel' : Below w.heap.size w w18 := bel.grown hg bel.size (fun k hk => by have := X2r.out _ hk; omega)
        clear bel hg own
        have bel := bel'
        clear bel'
        clear X0 X0r
        clear X1 X1r
        clear X2 X2r
        have hk1 : ¬ (1 : Int) + 2 * (l.parts.length : Int) + 2 * (m.parts.length : Int) + 2 * (o.parts.length : Int) < 0 := by omega
        go_wp2_with fail
        refine (eq_lab _ _ (taintL l m o).1 (taintL l m o).1 _ (by first | exact G0.out.rd | exact G0.out.rd.alloc _) (by first | exact W0.out.rd | exact W0.out.rd.alloc _)).mono ?_
        rintro e w19 ⟨rfl, hb⟩
        have sz19 : w18.heap.size ≤ w19.heap.size := by have := hb.size; simpa using this
        have Pc0' : w19.cell? ⟨w.heap.size, 0, none⟩ = some (.int .i64 l.base) := (hb.cell (by simp; omega)).trans (by first | exact Pc0 | (simp [go_sem, Pz, Pc0]; done))
        have Pc1' : w19.cell? ⟨w.heap.size, 1, none⟩ = some (.slice A n c) := (hb.cell (by simp; omega)).trans (by first | exact Pc1 | (simp [go_sem, Pz, Pc1]; done))
        have Qc0' : w19.cell? ⟨w.heap.size + 1, 0, none⟩ = some (.int .i64 m.base) := (hb.cell (by simp; omega)).trans (by first | exact Qc0 | (simp [go_sem, Qz, Qc0]; done))
        have Qc1' : w19.cell? ⟨w.heap.size + 1, 1, none⟩ = some (.slice B n' d) := (hb.cell (by simp; omega)).trans (by first | exact Qc1 | (simp [go_sem, Qz, Qc1]; done))
        have Uc0' : w19.cell? ⟨w.heap.size + 1 + 1, 0, none⟩ = some (.int .i64 o.base) := (hb.cell (by simp; omega)).trans (by first | exact Uc0 | (simp [go_sem, Uz, Uc0]; done))
        have Uc1' : w19.cell? ⟨w.heap.size + 1 + 1, 1, none⟩ = some (.slice C n'' f) := (hb.cell (by simp; omega)).trans (by first | exact Uc1 | (simp [go_sem, Uz, Uc1]; done))
        have BWc0' : w19.cell? ⟨g4, 0, none⟩ = some (.int .i64 (taintL l m o).1.base) := (hb.cell (by simp; omega)).trans (by first | exact BWc0 | (simp [go_sem, BWz, BWc0]; done))
        have BWc1' : w19.cell? ⟨g4, 1, none⟩ = some (.slice A4 n4 c4) := (hb.cell (by simp; omega)).trans (by first | exact BWc1 | (simp [go_sem, BWz, BWc1]; done))
        have Cc0' : w19.cell? ⟨w5.heap.size, 0, none⟩ = some (.int .i64 l.base) := (hb.cell (by simp; omega)).trans (by first | exact Cc0 | (simp [go_sem, Cz, Cc0]; done))
        have Cc1' : w19.cell? ⟨w5.heap.size, 1, none⟩ = some (.slice A5 n5 c5) := (hb.cell (by simp; omega)).trans (by first | exact Cc1 | (simp [go_sem, Cz, Cc1]; done))
        have Dc0' : w19.cell? ⟨w6.heap.size, 0, none⟩ = some (.int .i64 m.base) := (hb.cell (by simp; omega)).trans (by first | exact Dc0 | (simp [go_sem, Dz, Dc0]; done))
        have Dc1' : w19.cell? ⟨w6.heap.size, 1, none⟩ = some (.slice A6 n6 c6) := (hb.cell (by simp; omega)).trans (by first | exact Dc1 | (simp [go_sem, Dz, Dc1]; done))
        have Ec0' : w19.cell? ⟨w7.heap.size, 0, none⟩ = some (.int .i64 o.base) := (hb.cell (by simp; omega)).trans (by first | exact Ec0 | (simp [go_sem, Ez, Ec0]; done))
        have Ec1' : w19.cell? ⟨w7.heap.size, 1, none⟩ = some (.slice A7 n7 c7) := (hb.cell (by simp; omega)).trans (by first | exact Ec1 | (simp [go_sem, Ez, Ec1]; done))
        have BGc0' : w19.cell? ⟨w8.heap.size, 0, none⟩ = some (.int .i64 (taintL l m o).1.base) := (hb.cell (by simp; omega)).trans (by first | exact BGc0 | (simp [go_sem, BGz, BGc0]; done))
        have BGc1' : w19.cell? ⟨w8.heap.size, 1, none⟩ = some (.slice A8 n8 c8) := (hb.cell (by simp; omega)).trans (by first | exact BGc1 | (simp [go_sem, BGz, BGc1]; done))
        clear Pc0 Pc1 Qc0 Qc1 Uc0 Uc1 BWc0 BWc1 Cc0 Cc1 Dc0 Dc1 Ec0 Ec1 BGc0 BGc1 Pz Qz Uz BWz Cz Dz Ez BGz
        have Pc0 := Pc0'
        have Pc1 := Pc1'
        have Pz := block_lt_of_cell Pc0
        have Qc0 := Qc0'
        have Qc1 := Qc1'
        have Qz := block_lt_of_cell Qc0
        have Uc0 := Uc0'
        have Uc1 := Uc1'
        have Uz := block_lt_of_cell Uc0
        have BWc0 := BWc0'
        have BWc1 := BWc1'
        have BWz := block_lt_of_cell BWc0
        have Cc0 := Cc0'
        have Cc1 := Cc1'
        have Cz := block_lt_of_cell Cc0
        have Dc0 := Dc0'
        have Dc1 := Dc1'
        have Dz := block_lt_of_cell Dc0
        have Ec0 := Ec0'
        have Ec1 := Ec1'
        have Ez := block_lt_of_cell Ec0
        have BGc0 := BGc0'
        have BGc1 := BGc1'
        have BGz := block_lt_of_cell BGc0
        clear Pc0' Pc1' Qc0' Qc1' Uc0' Uc1' BWc0' BWc1' Cc0' Cc1' Dc0' Dc1' Ec0' Ec1' BGc0' BGc1'
        have W0' := Lib.hid (by first | exact W0.out.below hb | exact W0.out.over hb | exact W0.out.below (below_undrew hb))
        clear W0
        have W0 := W0'
        clear W0'
        have G0' := Lib.hid (by first | exact G0.out.below hb | exact G0.out.over hb | exact G0.out.below (below_undrew hb))
        clear G0
        have G0 := G0'
        clear G0'
        have bel' : Below w.heap.size w w19 := bel.trans ((by first | exact hb | exact over_alloc hb | exact below_undrew hb : Below w18.heap.size w18 w19).mono bel.size)
        clear bel hb
        have bel := bel'
        clear bel'
        go_wp2_with fail
        refine (mark_lab _ (taintL l m o).1 _ _ _ (by omega) (by omega) G0.out).mono ?_
        rintro e w20 ⟨rfl, own, hg⟩
        have sz20 : w19.heap.size ≤ w20.heap.size := hg.size
        have Pc0' : w20.cell? ⟨w.heap.size, 0, none⟩ = some (.int .i64 l.base) := hg.cell Pc0 (fun e => by have := G0r.out (w.heap.size) e.symm; omega)
        have Pc1' : w20.cell? ⟨w.heap.size, 1, none⟩ = some (.slice A n c) := hg.cell Pc1 (fun e => by have := G0r.out (w.heap.size) e.symm; omega)
        have Qc0' : w20.cell? ⟨w.heap.size + 1, 0, none⟩ = some (.int .i64 m.base) := hg.cell Qc0 (fun e => by have := G0r.out (w.heap.size + 1) e.symm; omega)
        have Qc1' : w20.cell? ⟨w.heap.size + 1, 1, none⟩ = some (.slice B n' d) := hg.cell Qc1 (fun e => by have := G0r.out (w.heap.size + 1) e.symm; omega)
        have Uc0' : w20.cell? ⟨w.heap.size + 1 + 1, 0, none⟩ = some (.int .i64 o.base) := hg.cell Uc0 (fun e => by have := G0r.out (w.heap.size + 1 + 1) e.symm; omega)
        have Uc1' : w20.cell? ⟨w.heap.size + 1 + 1, 1, none⟩ = some (.slice C n'' f) := hg.cell Uc1 (fun e => by have := G0r.out (w.heap.size + 1 + 1) e.symm; omega)
        have BWc0' : w20.cell? ⟨g4, 0, none⟩ = some (.int .i64 (taintL l m o).1.base) := hg.cell BWc0 (fun e => by have := G0r.out (g4) e.symm; omega)
        have BWc1' : w20.cell? ⟨g4, 1, none⟩ = some (.slice A4 n4 c4) := hg.cell BWc1 (fun e => by have := G0r.out (g4) e.symm; omega)
        have Cc0' : w20.cell? ⟨w5.heap.size, 0, none⟩ = some (.int .i64 l.base) := hg.cell Cc0 (fun e => by have := G0r.out (w5.heap.size) e.symm; omega)
        have Cc1' : w20.cell? ⟨w5.heap.size, 1, none⟩ = some (.slice A5 n5 c5) := hg.cell Cc1 (fun e => by have := G0r.out (w5.heap.size) e.symm; omega)
        have Dc0' : w20.cell? ⟨w6.heap.size, 0, none⟩ = some (.int .i64 m.base) := hg.cell Dc0 (fun e => by have := G0r.out (w6.heap.size) e.symm; omega)
        have Dc1' : w20.cell? ⟨w6.heap.size, 1, none⟩ = some (.slice A6 n6 c6) := hg.cell Dc1 (fun e => by have := G0r.out (w6.heap.size) e.symm; omega)
        have Ec0' : w20.cell? ⟨w7.heap.size, 0, none⟩ = some (.int .i64 o.base) := hg.cell Ec0 (fun e => by have := G0r.out (w7.heap.size) e.symm; omega)
        have Ec1' : w20.cell? ⟨w7.heap.size, 1, none⟩ = some (.slice A7 n7 c7) := hg.cell Ec1 (fun e => by have := G0r.out (w7.heap.size) e.symm; omega)
        have BGc0' : w20.cell? ⟨w8.heap.size, 0, none⟩ = some (.int .i64 (taintL l m o).1.base) := hg.cell BGc0 (fun e => by have := G0r.out (w8.heap.size) e.symm; omega)
        have BGc1' : w20.cell? ⟨w8.heap.size, 1, none⟩ = some (.slice A8 n8 c8) := hg.cell BGc1 (fun e => by have := G0r.out (w8.heap.size) e.symm; omega)
        clear Pc0 Pc1 Qc0 Qc1 Uc0 Uc1 BWc0 BWc1 Cc0 Cc1 Dc0 Dc1 Ec0 Ec1 BGc0 BGc1 Pz Qz Uz BWz Cz Dz Ez BGz
        have Pc0 := Pc0'
        have Pc1 := Pc1'
        have Pz := block_lt_of_cell Pc0
        have Qc0 := Qc0'
        have Qc1 := Qc1'
        have Qz := block_lt_of_cell Qc0
        have Uc0 := Uc0'
        have Uc1 := Uc1'
        have Uz := block_lt_of_cell Uc0
        have BWc0 := BWc0'
        have BWc1 := BWc1'
        have BWz := block_lt_of_cell BWc0
        have Cc0 := Cc0'
        have Cc1 := Cc1'
        have Cz := block_lt_of_cell Cc0
        have Dc0 := Dc0'
        have Dc1 := Dc1'
        have Dz := block_lt_of_cell Dc0
        have Ec0 := Ec0'
        have Ec1 := Ec1'
        have Ez := block_lt_of_cell Ec0
        have BGc0 := BGc0'
        have BGc1 := BGc1'
        have BGz := block_lt_of_cell BGc0
        clear Pc0' Pc1' Qc0' Qc1' Uc0' Uc1' BWc0' BWc1' Cc0' Cc1' Dc0' Dc1' Ec0' Ec1' BGc0' BGc1'
        have W0' := Lib.hid (W0.out.keptBy hg (fun k hk e => by have := G0r.out _ e; have := W0r.out _ hk; omega))
        clear W0
        have W0 := W0'
        clear W0'
        clear G0
        have G0 := Lib.hid own
        have bel' : Below w.heap.size w w20 := bel.grown hg bel.size (fun k hk => by have := G0r.out _ hk; omega)
        clear bel hg own
        have bel := bel'
        clear bel'
        have hk2 : ¬ (1 : Int) + 2 * ((taintL l m o).1.parts.length : Int) < 0 := by omega
        go_wp2_with fail
        refine (held_lab _ (taintL l m o).1 1 _ (by omega) (by omega) G0.out.rd).mono ?_
        rintro e w21 ⟨rfl, hb⟩
        have sz21 : w20.heap.size ≤ w21.heap.size := by have := hb.size; simpa using this
        have Pc0' : w21.cell? ⟨w.heap.size, 0, none⟩ = some (.int .i64 l.base) := (hb.cell (by simp; omega)).trans (by first | exact Pc0 | (simp [go_sem, Pz, Pc0]; done))
        have Pc1' : w21.cell? ⟨w.heap.size, 1, none⟩ = some (.slice A n c) := (hb.cell (by simp; omega)).trans (by first | exact Pc1 | (simp [go_sem, Pz, Pc1]; done))
        have Qc0' : w21.cell? ⟨w.heap.size + 1, 0, none⟩ = some (.int .i64 m.base) := (hb.cell (by simp; omega)).trans (by first | exact Qc0 | (simp [go_sem, Qz, Qc0]; done))
        have Qc1' : w21.cell? ⟨w.heap.size + 1, 1, none⟩ = some (.slice B n' d) := (hb.cell (by simp; omega)).trans (by first | exact Qc1 | (simp [go_sem, Qz, Qc1]; done))
        have Uc0' : w21.cell? ⟨w.heap.size + 1 + 1, 0, none⟩ = some (.int .i64 o.base) := (hb.cell (by simp; omega)).trans (by first | exact Uc0 | (simp [go_sem, Uz, Uc0]; done))
        have Uc1' : w21.cell? ⟨w.heap.size + 1 + 1, 1, none⟩ = some (.slice C n'' f) := (hb.cell (by simp; omega)).trans (by first | exact Uc1 | (simp [go_sem, Uz, Uc1]; done))
        have BWc0' : w21.cell? ⟨g4, 0, none⟩ = some (.int .i64 (taintL l m o).1.base) := (hb.cell (by simp; omega)).trans (by first | exact BWc0 | (simp [go_sem, BWz, BWc0]; done))
        have BWc1' : w21.cell? ⟨g4, 1, none⟩ = some (.slice A4 n4 c4) := (hb.cell (by simp; omega)).trans (by first | exact BWc1 | (simp [go_sem, BWz, BWc1]; done))
        have Cc0' : w21.cell? ⟨w5.heap.size, 0, none⟩ = some (.int .i64 l.base) := (hb.cell (by simp; omega)).trans (by first | exact Cc0 | (simp [go_sem, Cz, Cc0]; done))
        have Cc1' : w21.cell? ⟨w5.heap.size, 1, none⟩ = some (.slice A5 n5 c5) := (hb.cell (by simp; omega)).trans (by first | exact Cc1 | (simp [go_sem, Cz, Cc1]; done))
        have Dc0' : w21.cell? ⟨w6.heap.size, 0, none⟩ = some (.int .i64 m.base) := (hb.cell (by simp; omega)).trans (by first | exact Dc0 | (simp [go_sem, Dz, Dc0]; done))
        have Dc1' : w21.cell? ⟨w6.heap.size, 1, none⟩ = some (.slice A6 n6 c6) := (hb.cell (by simp; omega)).trans (by first | exact Dc1 | (simp [go_sem, Dz, Dc1]; done))
        have Ec0' : w21.cell? ⟨w7.heap.size, 0, none⟩ = some (.int .i64 o.base) := (hb.cell (by simp; omega)).trans (by first | exact Ec0 | (simp [go_sem, Ez, Ec0]; done))
        have Ec1' : w21.cell? ⟨w7.heap.size, 1, none⟩ = some (.slice A7 n7 c7) := (hb.cell (by simp; omega)).trans (by first | exact Ec1 | (simp [go_sem, Ez, Ec1]; done))
        have BGc0' : w21.cell? ⟨w8.heap.size, 0, none⟩ = some (.int .i64 (taintL l m o).1.base) := (hb.cell (by simp; omega)).trans (by first | exact BGc0 | (simp [go_sem, BGz, BGc0]; done))
        have BGc1' : w21.cell? ⟨w8.heap.size, 1, none⟩ = some (.slice A8 n8 c8) := (hb.cell (by simp; omega)).trans (by first | exact BGc1 | (simp [go_sem, BGz, BGc1]; done))
        clear Pc0 Pc1 Qc0 Qc1 Uc0 Uc1 BWc0 BWc1 Cc0 Cc1 Dc0 Dc1 Ec0 Ec1 BGc0 BGc1 Pz Qz Uz BWz Cz Dz Ez BGz
        have Pc0 := Pc0'
        have Pc1 := Pc1'
        have Pz := block_lt_of_cell Pc0
        have Qc0 := Qc0'
        have Qc1 := Qc1'
        have Qz := block_lt_of_cell Qc0
        have Uc0 := Uc0'
        have Uc1 := Uc1'
        have Uz := block_lt_of_cell Uc0
        have BWc0 := BWc0'
        have BWc1 := BWc1'
        have BWz := block_lt_of_cell BWc0
        have Cc0 := Cc0'
        have Cc1 := Cc1'
        have Cz := block_lt_of_cell Cc0
        have Dc0 := Dc0'
        have Dc1 := Dc1'
        have Dz := block_lt_of_cell Dc0
        have Ec0 := Ec0'
        have Ec1 := Ec1'
        have Ez := block_lt_of_cell Ec0
        have BGc0 := BGc0'
        have BGc1 := BGc1'
        have BGz := block_lt_of_cell BGc0
        clear Pc0' Pc1' Qc0' Qc1' Uc0' Uc1' BWc0' BWc1' Cc0' Cc1' Dc0' Dc1' Ec0' Ec1' BGc0' BGc1'
        have W0' := Lib.hid (by first | exact W0.out.below hb | exact W0.out.over hb | exact W0.out.below (below_undrew hb))
        clear W0
        have W0 := W0'
        clear W0'
        have G0' := Lib.hid (by first | exact G0.out.below hb | exact G0.out.over hb | exact G0.out.below (below_undrew hb))
        clear G0
        have G0 := G0'
        clear G0'
        have bel' : Below w.heap.size w w21 := bel.trans ((by first | exact hb | exact over_alloc hb | exact below_undrew hb : Below w20.heap.size w20 w21).mono bel.size)
        clear bel hb
        have bel := bel'
        clear bel'
        have HC := Lib.hid (Below.refl w21.heap.size w21)
        go_upto_region 38 with fail
        go_cut [18, 19] (fun sa sb wx => Boxed w21 (taintL l m o).1 (taintL l m o).2 sa sb wx)
        case first =>
          go_region_held3 (fun w' => w'.cell? ⟨w.heap.size, 0, none⟩ = some (.int .i64 l.base) ∧ w'.cell? ⟨w.heap.size, 1, none⟩ = some (.slice A n c) ∧ w'.cell? ⟨w.heap.size + 1, 0, none⟩ = some (.int .i64 m.base) ∧ w'.cell? ⟨w.heap.size + 1, 1, none⟩ = some (.slice B n' d) ∧ w'.cell? ⟨w.heap.size + 1 + 1, 0, none⟩ = some (.int .i64 o.base) ∧ w'.cell? ⟨w.heap.size + 1 + 1, 1, none⟩ = some (.slice C n'' f) ∧ w'.cell? ⟨g4, 0, none⟩ = some (.int .i64 (taintL l m o).1.base) ∧ w'.cell? ⟨g4, 1, none⟩ = some (.slice A4 n4 c4) ∧ w'.cell? ⟨w5.heap.size, 0, none⟩ = some (.int .i64 l.base) ∧ w'.cell? ⟨w5.heap.size, 1, none⟩ = some (.slice A5 n5 c5) ∧ w'.cell? ⟨w6.heap.size, 0, none⟩ = some (.int .i64 m.base) ∧ w'.cell? ⟨w6.heap.size, 1, none⟩ = some (.slice A6 n6 c6) ∧ w'.cell? ⟨w7.heap.size, 0, none⟩ = some (.int .i64 o.base) ∧ w'.cell? ⟨w7.heap.size, 1, none⟩ = some (.slice A7 n7 c7) ∧ w'.cell? ⟨w8.heap.size, 0, none⟩ = some (.int .i64 (taintL l m o).1.base) ∧ w'.cell? ⟨w8.heap.size, 1, none⟩ = some (.slice A8 n8 c8))
            (first | exact ⟨ff0, ff1, ff2, ff3, ff4, ff5, ff6, ff7, ff8, ff9, ff10, ff11, ff12, ff13, ff14, ff15⟩ | go_keep)
            (first
            | (go_at_call_of 19 (Value.agg #[Value.int IntKind.i64 l.base, Value.slice A n c])
               refine (to_lab _ l _ (by first | exact hr.below (below_more bel HC.out) | exact (hr.below (below_more bel HC.out)).alloc _ | exact (hr.below (below_more bel HC.out)).drew | exact ((hr.below (below_more bel HC.out)).alloc _).drew | exact ((hr.below (below_more bel HC.out)).drew).alloc _)).mono ?_
               rintro e wn ⟨vv, rfl, own, hb⟩
               have HC0 := HC.out.size
               first
               | (have HY : Hid (Fresh wn _) := Lib.hid (by first | exact Fresh.new hb | exact Fresh.new (below_dr hb))
                  have ne0 : w.heap.size ≠ _ := Nat.ne_of_lt (Nat.lt_of_lt_of_le Pz HC0)
                  have nf0 := Ne.symm ne0
                  have ne1 : w.heap.size + 1 ≠ _ := Nat.ne_of_lt (Nat.lt_of_lt_of_le Qz HC0)
                  have nf1 := Ne.symm ne1
                  have ne2 : w.heap.size + 1 + 1 ≠ _ := Nat.ne_of_lt (Nat.lt_of_lt_of_le Uz HC0)
                  have nf2 := Ne.symm ne2
                  have ne3 : g4 ≠ _ := Nat.ne_of_lt (Nat.lt_of_lt_of_le BWz HC0)
                  have nf3 := Ne.symm ne3
                  have ne4 : w5.heap.size ≠ _ := Nat.ne_of_lt (Nat.lt_of_lt_of_le Cz HC0)
                  have nf4 := Ne.symm ne4
                  have ne5 : w6.heap.size ≠ _ := Nat.ne_of_lt (Nat.lt_of_lt_of_le Dz HC0)
                  have nf5 := Ne.symm ne5
                  have ne6 : w7.heap.size ≠ _ := Nat.ne_of_lt (Nat.lt_of_lt_of_le Ez HC0)
                  have nf6 := Ne.symm ne6
                  have ne7 : w8.heap.size ≠ _ := Nat.ne_of_lt (Nat.lt_of_lt_of_le BGz HC0)
                  have nf7 := Ne.symm ne7
                  have HYl := HC0)
               | (have HYb := block_lt_of_cell HY.out.c0
                  have HY' := Lib.hid (HY.out.below (by first | exact hb | exact over_alloc hb | exact below_undrew hb | exact over_alloc (below_dr hb) | exact below_undrew (over_alloc hb)))
                  clear HY
                  have HY := HY'
                  clear HY')
               | skip
               try clear hy0 hy1 hq0 hq1
               try (have hy0 := HY.out.c0
                    have hy1 := HY.out.c1
                    have hq0 := HY.out.f0
                    have hq1 := HY.out.f1)
               have HC' : Hid (Below w21.heap.size w21 wn) := Lib.hid (by first | exact below_more HC.out hb | exact below_more HC.out (over_alloc hb) | exact below_more HC.out (below_undrew hb) | exact below_more HC.out (over_alloc (below_dr hb)) | exact below_more HC.out (below_undrew (over_alloc hb)))
               clear HC
               have HC := HC'
               clear HC'
               try clear ff0 ff1 ff2 ff3 ff4 ff5 ff6 ff7 ff8 ff9 ff10 ff11 ff12 ff13 ff14 ff15
               have ff0 : wn.cell? ⟨w.heap.size, 0, none⟩ = some (.int .i64 l.base) := (HC.out.cell (by exact Pz)).trans (by exact Pc0)
               have ff1 : wn.cell? ⟨w.heap.size, 1, none⟩ = some (.slice A n c) := (HC.out.cell (by exact Pz)).trans (by exact Pc1)
               have ff2 : wn.cell? ⟨w.heap.size + 1, 0, none⟩ = some (.int .i64 m.base) := (HC.out.cell (by exact Qz)).trans (by exact Qc0)
               have ff3 : wn.cell? ⟨w.heap.size + 1, 1, none⟩ = some (.slice B n' d) := (HC.out.cell (by exact Qz)).trans (by exact Qc1)
               have ff4 : wn.cell? ⟨w.heap.size + 1 + 1, 0, none⟩ = some (.int .i64 o.base) := (HC.out.cell (by exact Uz)).trans (by exact Uc0)
               have ff5 : wn.cell? ⟨w.heap.size + 1 + 1, 1, none⟩ = some (.slice C n'' f) := (HC.out.cell (by exact Uz)).trans (by exact Uc1)
               have ff6 : wn.cell? ⟨g4, 0, none⟩ = some (.int .i64 (taintL l m o).1.base) := (HC.out.cell (by exact BWz)).trans (by exact BWc0)
               have ff7 : wn.cell? ⟨g4, 1, none⟩ = some (.slice A4 n4 c4) := (HC.out.cell (by exact BWz)).trans (by exact BWc1)
               have ff8 : wn.cell? ⟨w5.heap.size, 0, none⟩ = some (.int .i64 l.base) := (HC.out.cell (by exact Cz)).trans (by exact Cc0)
               have ff9 : wn.cell? ⟨w5.heap.size, 1, none⟩ = some (.slice A5 n5 c5) := (HC.out.cell (by exact Cz)).trans (by exact Cc1)
               have ff10 : wn.cell? ⟨w6.heap.size, 0, none⟩ = some (.int .i64 m.base) := (HC.out.cell (by exact Dz)).trans (by exact Dc0)
               have ff11 : wn.cell? ⟨w6.heap.size, 1, none⟩ = some (.slice A6 n6 c6) := (HC.out.cell (by exact Dz)).trans (by exact Dc1)
               have ff12 : wn.cell? ⟨w7.heap.size, 0, none⟩ = some (.int .i64 o.base) := (HC.out.cell (by exact Ez)).trans (by exact Ec0)
               have ff13 : wn.cell? ⟨w7.heap.size, 1, none⟩ = some (.slice A7 n7 c7) := (HC.out.cell (by exact Ez)).trans (by exact Ec1)
               have ff14 : wn.cell? ⟨w8.heap.size, 0, none⟩ = some (.int .i64 (taintL l m o).1.base) := (HC.out.cell (by exact BGz)).trans (by exact BGc0)
               have ff15 : wn.cell? ⟨w8.heap.size, 1, none⟩ = some (.slice A8 n8 c8) := (HC.out.cell (by exact BGz)).trans (by exact BGc1)
               try (have R0' := Lib.hid (R0.out.below (by first | exact hb | exact over_alloc hb | exact below_undrew hb | exact over_alloc (below_dr hb) | exact below_undrew (over_alloc hb)))
                    clear R0
                    have R0 := R0'
                    clear R0')
               try (have R1' := Lib.hid (R1.out.below (by first | exact hb | exact over_alloc hb | exact below_undrew hb | exact over_alloc (below_dr hb) | exact below_undrew (over_alloc hb)))
                    clear R1
                    have R1 := R1'
                    clear R1')
               try (have R2' := Lib.hid (R2.out.below (by first | exact hb | exact over_alloc hb | exact below_undrew hb | exact over_alloc (below_dr hb) | exact below_undrew (over_alloc hb)))
                    clear R2
                    have R2 := R2'
                    clear R2')
               have R0 := Lib.hid own.rd
               obtain ⟨A220, n220, c220, rfl, -, -, -⟩ := own
               clear hb)
            | (go_at_call_of 19 (Value.agg #[Value.int IntKind.i64 m.base, Value.slice B n' d])
               refine (to_lab _ m _ (by first | exact hq.below (below_more bel HC.out) | exact (hq.below (below_more bel HC.out)).alloc _ | exact (hq.below (below_more bel HC.out)).drew | exact ((hq.below (below_more bel HC.out)).alloc _).drew | exact ((hq.below (below_more bel HC.out)).drew).alloc _)).mono ?_
               rintro e wn ⟨vv, rfl, own, hb⟩
               have HC0 := HC.out.size
               first
               | (have HY : Hid (Fresh wn _) := Lib.hid (by first | exact Fresh.new hb | exact Fresh.new (below_dr hb))
                  have ne0 : w.heap.size ≠ _ := Nat.ne_of_lt (Nat.lt_of_lt_of_le Pz HC0)
                  have nf0 := Ne.symm ne0
                  have ne1 : w.heap.size + 1 ≠ _ := Nat.ne_of_lt (Nat.lt_of_lt_of_le Qz HC0)
                  have nf1 := Ne.symm ne1
                  have ne2 : w.heap.size + 1 + 1 ≠ _ := Nat.ne_of_lt (Nat.lt_of_lt_of_le Uz HC0)
                  have nf2 := Ne.symm ne2
                  have ne3 : g4 ≠ _ := Nat.ne_of_lt (Nat.lt_of_lt_of_le BWz HC0)
                  have nf3 := Ne.symm ne3
                  have ne4 : w5.heap.size ≠ _ := Nat.ne_of_lt (Nat.lt_of_lt_of_le Cz HC0)
                  have nf4 := Ne.symm ne4
                  have ne5 : w6.heap.size ≠ _ := Nat.ne_of_lt (Nat.lt_of_lt_of_le Dz HC0)
                  have nf5 := Ne.symm ne5
                  have ne6 : w7.heap.size ≠ _ := Nat.ne_of_lt (Nat.lt_of_lt_of_le Ez HC0)
                  have nf6 := Ne.symm ne6
                  have ne7 : w8.heap.size ≠ _ := Nat.ne_of_lt (Nat.lt_of_lt_of_le BGz HC0)
                  have nf7 := Ne.symm ne7
                  have HYl := HC0)
               | (have HYb := block_lt_of_cell HY.out.c0
                  have HY' := Lib.hid (HY.out.below (by first | exact hb | exact over_alloc hb | exact below_undrew hb | exact over_alloc (below_dr hb) | exact below_undrew (over_alloc hb)))
                  clear HY
                  have HY := HY'
                  clear HY')
               | skip
               try clear hy0 hy1 hq0 hq1
               try (have hy0 := HY.out.c0
                    have hy1 := HY.out.c1
                    have hq0 := HY.out.f0
                    have hq1 := HY.out.f1)
               have HC' : Hid (Below w21.heap.size w21 wn) := Lib.hid (by first | exact below_more HC.out hb | exact below_more HC.out (over_alloc hb) | exact below_more HC.out (below_undrew hb) | exact below_more HC.out (over_alloc (below_dr hb)) | exact below_more HC.out (below_undrew (over_alloc hb)))
               clear HC
               have HC := HC'
               clear HC'
               try clear ff0 ff1 ff2 ff3 ff4 ff5 ff6 ff7 ff8 ff9 ff10 ff11 ff12 ff13 ff14 ff15
               have ff0 : wn.cell? ⟨w.heap.size, 0, none⟩ = some (.int .i64 l.base) := (HC.out.cell (by exact Pz)).trans (by exact Pc0)
               have ff1 : wn.cell? ⟨w.heap.size, 1, none⟩ = some (.slice A n c) := (HC.out.cell (by exact Pz)).trans (by exact Pc1)
               have ff2 : wn.cell? ⟨w.heap.size + 1, 0, none⟩ = some (.int .i64 m.base) := (HC.out.cell (by exact Qz)).trans (by exact Qc0)
               have ff3 : wn.cell? ⟨w.heap.size + 1, 1, none⟩ = some (.slice B n' d) := (HC.out.cell (by exact Qz)).trans (by exact Qc1)
               have ff4 : wn.cell? ⟨w.heap.size + 1 + 1, 0, none⟩ = some (.int .i64 o.base) := (HC.out.cell (by exact Uz)).trans (by exact Uc0)
               have ff5 : wn.cell? ⟨w.heap.size + 1 + 1, 1, none⟩ = some (.slice C n'' f) := (HC.out.cell (by exact Uz)).trans (by exact Uc1)
               have ff6 : wn.cell? ⟨g4, 0, none⟩ = some (.int .i64 (taintL l m o).1.base) := (HC.out.cell (by exact BWz)).trans (by exact BWc0)
               have ff7 : wn.cell? ⟨g4, 1, none⟩ = some (.slice A4 n4 c4) := (HC.out.cell (by exact BWz)).trans (by exact BWc1)
               have ff8 : wn.cell? ⟨w5.heap.size, 0, none⟩ = some (.int .i64 l.base) := (HC.out.cell (by exact Cz)).trans (by exact Cc0)
               have ff9 : wn.cell? ⟨w5.heap.size, 1, none⟩ = some (.slice A5 n5 c5) := (HC.out.cell (by exact Cz)).trans (by exact Cc1)
               have ff10 : wn.cell? ⟨w6.heap.size, 0, none⟩ = some (.int .i64 m.base) := (HC.out.cell (by exact Dz)).trans (by exact Dc0)
               have ff11 : wn.cell? ⟨w6.heap.size, 1, none⟩ = some (.slice A6 n6 c6) := (HC.out.cell (by exact Dz)).trans (by exact Dc1)
               have ff12 : wn.cell? ⟨w7.heap.size, 0, none⟩ = some (.int .i64 o.base) := (HC.out.cell (by exact Ez)).trans (by exact Ec0)
               have ff13 : wn.cell? ⟨w7.heap.size, 1, none⟩ = some (.slice A7 n7 c7) := (HC.out.cell (by exact Ez)).trans (by exact Ec1)
               have ff14 : wn.cell? ⟨w8.heap.size, 0, none⟩ = some (.int .i64 (taintL l m o).1.base) := (HC.out.cell (by exact BGz)).trans (by exact BGc0)
               have ff15 : wn.cell? ⟨w8.heap.size, 1, none⟩ = some (.slice A8 n8 c8) := (HC.out.cell (by exact BGz)).trans (by exact BGc1)
               try (have R0' := Lib.hid (R0.out.below (by first | exact hb | exact over_alloc hb | exact below_undrew hb | exact over_alloc (below_dr hb) | exact below_undrew (over_alloc hb)))
                    clear R0
                    have R0 := R0'
                    clear R0')
               try (have R1' := Lib.hid (R1.out.below (by first | exact hb | exact over_alloc hb | exact below_undrew hb | exact over_alloc (below_dr hb) | exact below_undrew (over_alloc hb)))
                    clear R1
                    have R1 := R1'
                    clear R1')
               try (have R2' := Lib.hid (R2.out.below (by first | exact hb | exact over_alloc hb | exact below_undrew hb | exact over_alloc (below_dr hb) | exact below_undrew (over_alloc hb)))
                    clear R2
                    have R2 := R2'
                    clear R2')
               have R1 := Lib.hid own.rd
               obtain ⟨A221, n221, c221, rfl, -, -, -⟩ := own
               clear hb)
            | (go_at_call_of 19 (Value.agg #[Value.int IntKind.i64 o.base, Value.slice C n'' f])
               refine (to_lab _ o _ (by first | exact hu.below (below_more bel HC.out) | exact (hu.below (below_more bel HC.out)).alloc _ | exact (hu.below (below_more bel HC.out)).drew | exact ((hu.below (below_more bel HC.out)).alloc _).drew | exact ((hu.below (below_more bel HC.out)).drew).alloc _)).mono ?_
               rintro e wn ⟨vv, rfl, own, hb⟩
               have HC0 := HC.out.size
               first
               | (have HY : Hid (Fresh wn _) := Lib.hid (by first | exact Fresh.new hb | exact Fresh.new (below_dr hb))
                  have ne0 : w.heap.size ≠ _ := Nat.ne_of_lt (Nat.lt_of_lt_of_le Pz HC0)
                  have nf0 := Ne.symm ne0
                  have ne1 : w.heap.size + 1 ≠ _ := Nat.ne_of_lt (Nat.lt_of_lt_of_le Qz HC0)
                  have nf1 := Ne.symm ne1
                  have ne2 : w.heap.size + 1 + 1 ≠ _ := Nat.ne_of_lt (Nat.lt_of_lt_of_le Uz HC0)
                  have nf2 := Ne.symm ne2
                  have ne3 : g4 ≠ _ := Nat.ne_of_lt (Nat.lt_of_lt_of_le BWz HC0)
                  have nf3 := Ne.symm ne3
                  have ne4 : w5.heap.size ≠ _ := Nat.ne_of_lt (Nat.lt_of_lt_of_le Cz HC0)
                  have nf4 := Ne.symm ne4
                  have ne5 : w6.heap.size ≠ _ := Nat.ne_of_lt (Nat.lt_of_lt_of_le Dz HC0)
                  have nf5 := Ne.symm ne5
                  have ne6 : w7.heap.size ≠ _ := Nat.ne_of_lt (Nat.lt_of_lt_of_le Ez HC0)
                  have nf6 := Ne.symm ne6
                  have ne7 : w8.heap.size ≠ _ := Nat.ne_of_lt (Nat.lt_of_lt_of_le BGz HC0)
                  have nf7 := Ne.symm ne7
                  have HYl := HC0)
               | (have HYb := block_lt_of_cell HY.out.c0
                  have HY' := Lib.hid (HY.out.below (by first | exact hb | exact over_alloc hb | exact below_undrew hb | exact over_alloc (below_dr hb) | exact below_undrew (over_alloc hb)))
                  clear HY
                  have HY := HY'
                  clear HY')
               | skip
               try clear hy0 hy1 hq0 hq1
               try (have hy0 := HY.out.c0
                    have hy1 := HY.out.c1
                    have hq0 := HY.out.f0
                    have hq1 := HY.out.f1)
               have HC' : Hid (Below w21.heap.size w21 wn) := Lib.hid (by first | exact below_more HC.out hb | exact below_more HC.out (over_alloc hb) | exact below_more HC.out (below_undrew hb) | exact below_more HC.out (over_alloc (below_dr hb)) | exact below_more HC.out (below_undrew (over_alloc hb)))
               clear HC
               have HC := HC'
               clear HC'
               try clear ff0 ff1 ff2 ff3 ff4 ff5 ff6 ff7 ff8 ff9 ff10 ff11 ff12 ff13 ff14 ff15
               have ff0 : wn.cell? ⟨w.heap.size, 0, none⟩ = some (.int .i64 l.base) := (HC.out.cell (by exact Pz)).trans (by exact Pc0)
               have ff1 : wn.cell? ⟨w.heap.size, 1, none⟩ = some (.slice A n c) := (HC.out.cell (by exact Pz)).trans (by exact Pc1)
               have ff2 : wn.cell? ⟨w.heap.size + 1, 0, none⟩ = some (.int .i64 m.base) := (HC.out.cell (by exact Qz)).trans (by exact Qc0)
               have ff3 : wn.cell? ⟨w.heap.size + 1, 1, none⟩ = some (.slice B n' d) := (HC.out.cell (by exact Qz)).trans (by exact Qc1)
               have ff4 : wn.cell? ⟨w.heap.size + 1 + 1, 0, none⟩ = some (.int .i64 o.base) := (HC.out.cell (by exact Uz)).trans (by exact Uc0)
               have ff5 : wn.cell? ⟨w.heap.size + 1 + 1, 1, none⟩ = some (.slice C n'' f) := (HC.out.cell (by exact Uz)).trans (by exact Uc1)
               have ff6 : wn.cell? ⟨g4, 0, none⟩ = some (.int .i64 (taintL l m o).1.base) := (HC.out.cell (by exact BWz)).trans (by exact BWc0)
               have ff7 : wn.cell? ⟨g4, 1, none⟩ = some (.slice A4 n4 c4) := (HC.out.cell (by exact BWz)).trans (by exact BWc1)
               have ff8 : wn.cell? ⟨w5.heap.size, 0, none⟩ = some (.int .i64 l.base) := (HC.out.cell (by exact Cz)).trans (by exact Cc0)
               have ff9 : wn.cell? ⟨w5.heap.size, 1, none⟩ = some (.slice A5 n5 c5) := (HC.out.cell (by exact Cz)).trans (by exact Cc1)
               have ff10 : wn.cell? ⟨w6.heap.size, 0, none⟩ = some (.int .i64 m.base) := (HC.out.cell (by exact Dz)).trans (by exact Dc0)
               have ff11 : wn.cell? ⟨w6.heap.size, 1, none⟩ = some (.slice A6 n6 c6) := (HC.out.cell (by exact Dz)).trans (by exact Dc1)
               have ff12 : wn.cell? ⟨w7.heap.size, 0, none⟩ = some (.int .i64 o.base) := (HC.out.cell (by exact Ez)).trans (by exact Ec0)
               have ff13 : wn.cell? ⟨w7.heap.size, 1, none⟩ = some (.slice A7 n7 c7) := (HC.out.cell (by exact Ez)).trans (by exact Ec1)
               have ff14 : wn.cell? ⟨w8.heap.size, 0, none⟩ = some (.int .i64 (taintL l m o).1.base) := (HC.out.cell (by exact BGz)).trans (by exact BGc0)
               have ff15 : wn.cell? ⟨w8.heap.size, 1, none⟩ = some (.slice A8 n8 c8) := (HC.out.cell (by exact BGz)).trans (by exact BGc1)
               try (have R0' := Lib.hid (R0.out.below (by first | exact hb | exact over_alloc hb | exact below_undrew hb | exact over_alloc (below_dr hb) | exact below_undrew (over_alloc hb)))
                    clear R0
                    have R0 := R0'
                    clear R0')
               try (have R1' := Lib.hid (R1.out.below (by first | exact hb | exact over_alloc hb | exact below_undrew hb | exact over_alloc (below_dr hb) | exact below_undrew (over_alloc hb)))
                    clear R1
                    have R1 := R1'
                    clear R1')
               try (have R2' := Lib.hid (R2.out.below (by first | exact hb | exact over_alloc hb | exact below_undrew hb | exact over_alloc (below_dr hb) | exact below_undrew (over_alloc hb)))
                    clear R2
                    have R2 := R2'
                    clear R2')
               have R2 := Lib.hid own.rd
               obtain ⟨A222, n222, c222, rfl, -, -, -⟩ := own
               clear hb)
            | (go_at_call 8
               refine (impl_tainted _ _ _ l m o _ R0.out R1.out R2.out).mono ?_
               rintro e wn ⟨vv, rfl, own, hb⟩
               have HC0 := HC.out.size
               first
               | (have HY : Hid (Fresh wn _) := Lib.hid (by first | exact Fresh.new hb | exact Fresh.new (below_dr hb))
                  have ne0 : w.heap.size ≠ _ := Nat.ne_of_lt (Nat.lt_of_lt_of_le Pz HC0)
                  have nf0 := Ne.symm ne0
                  have ne1 : w.heap.size + 1 ≠ _ := Nat.ne_of_lt (Nat.lt_of_lt_of_le Qz HC0)
                  have nf1 := Ne.symm ne1
                  have ne2 : w.heap.size + 1 + 1 ≠ _ := Nat.ne_of_lt (Nat.lt_of_lt_of_le Uz HC0)
                  have nf2 := Ne.symm ne2
                  have ne3 : g4 ≠ _ := Nat.ne_of_lt (Nat.lt_of_lt_of_le BWz HC0)
                  have nf3 := Ne.symm ne3
                  have ne4 : w5.heap.size ≠ _ := Nat.ne_of_lt (Nat.lt_of_lt_of_le Cz HC0)
                  have nf4 := Ne.symm ne4
                  have ne5 : w6.heap.size ≠ _ := Nat.ne_of_lt (Nat.lt_of_lt_of_le Dz HC0)
                  have nf5 := Ne.symm ne5
                  have ne6 : w7.heap.size ≠ _ := Nat.ne_of_lt (Nat.lt_of_lt_of_le Ez HC0)
                  have nf6 := Ne.symm ne6
                  have ne7 : w8.heap.size ≠ _ := Nat.ne_of_lt (Nat.lt_of_lt_of_le BGz HC0)
                  have nf7 := Ne.symm ne7
                  have HYl := HC0)
               | (have HYb := block_lt_of_cell HY.out.c0
                  have HY' := Lib.hid (HY.out.below (by first | exact hb | exact over_alloc hb | exact below_undrew hb | exact over_alloc (below_dr hb) | exact below_undrew (over_alloc hb)))
                  clear HY
                  have HY := HY'
                  clear HY')
               | skip
               try clear hy0 hy1 hq0 hq1
               try (have hy0 := HY.out.c0
                    have hy1 := HY.out.c1
                    have hq0 := HY.out.f0
                    have hq1 := HY.out.f1)
               have HC' : Hid (Below w21.heap.size w21 wn) := Lib.hid (by first | exact below_more HC.out hb | exact below_more HC.out (over_alloc hb) | exact below_more HC.out (below_undrew hb) | exact below_more HC.out (over_alloc (below_dr hb)) | exact below_more HC.out (below_undrew (over_alloc hb)))
               clear HC
               have HC := HC'
               clear HC'
               try clear ff0 ff1 ff2 ff3 ff4 ff5 ff6 ff7 ff8 ff9 ff10 ff11 ff12 ff13 ff14 ff15
               have ff0 : wn.cell? ⟨w.heap.size, 0, none⟩ = some (.int .i64 l.base) := (HC.out.cell (by exact Pz)).trans (by exact Pc0)
               have ff1 : wn.cell? ⟨w.heap.size, 1, none⟩ = some (.slice A n c) := (HC.out.cell (by exact Pz)).trans (by exact Pc1)
               have ff2 : wn.cell? ⟨w.heap.size + 1, 0, none⟩ = some (.int .i64 m.base) := (HC.out.cell (by exact Qz)).trans (by exact Qc0)
               have ff3 : wn.cell? ⟨w.heap.size + 1, 1, none⟩ = some (.slice B n' d) := (HC.out.cell (by exact Qz)).trans (by exact Qc1)
               have ff4 : wn.cell? ⟨w.heap.size + 1 + 1, 0, none⟩ = some (.int .i64 o.base) := (HC.out.cell (by exact Uz)).trans (by exact Uc0)
               have ff5 : wn.cell? ⟨w.heap.size + 1 + 1, 1, none⟩ = some (.slice C n'' f) := (HC.out.cell (by exact Uz)).trans (by exact Uc1)
               have ff6 : wn.cell? ⟨g4, 0, none⟩ = some (.int .i64 (taintL l m o).1.base) := (HC.out.cell (by exact BWz)).trans (by exact BWc0)
               have ff7 : wn.cell? ⟨g4, 1, none⟩ = some (.slice A4 n4 c4) := (HC.out.cell (by exact BWz)).trans (by exact BWc1)
               have ff8 : wn.cell? ⟨w5.heap.size, 0, none⟩ = some (.int .i64 l.base) := (HC.out.cell (by exact Cz)).trans (by exact Cc0)
               have ff9 : wn.cell? ⟨w5.heap.size, 1, none⟩ = some (.slice A5 n5 c5) := (HC.out.cell (by exact Cz)).trans (by exact Cc1)
               have ff10 : wn.cell? ⟨w6.heap.size, 0, none⟩ = some (.int .i64 m.base) := (HC.out.cell (by exact Dz)).trans (by exact Dc0)
               have ff11 : wn.cell? ⟨w6.heap.size, 1, none⟩ = some (.slice A6 n6 c6) := (HC.out.cell (by exact Dz)).trans (by exact Dc1)
               have ff12 : wn.cell? ⟨w7.heap.size, 0, none⟩ = some (.int .i64 o.base) := (HC.out.cell (by exact Ez)).trans (by exact Ec0)
               have ff13 : wn.cell? ⟨w7.heap.size, 1, none⟩ = some (.slice A7 n7 c7) := (HC.out.cell (by exact Ez)).trans (by exact Ec1)
               have ff14 : wn.cell? ⟨w8.heap.size, 0, none⟩ = some (.int .i64 (taintL l m o).1.base) := (HC.out.cell (by exact BGz)).trans (by exact BGc0)
               have ff15 : wn.cell? ⟨w8.heap.size, 1, none⟩ = some (.slice A8 n8 c8) := (HC.out.cell (by exact BGz)).trans (by exact BGc1)
               try (have R0' := Lib.hid (R0.out.below (by first | exact hb | exact over_alloc hb | exact below_undrew hb | exact over_alloc (below_dr hb) | exact below_undrew (over_alloc hb)))
                    clear R0
                    have R0 := R0'
                    clear R0')
               try (have R1' := Lib.hid (R1.out.below (by first | exact hb | exact over_alloc hb | exact below_undrew hb | exact over_alloc (below_dr hb) | exact below_undrew (over_alloc hb)))
                    clear R1
                    have R1 := R1'
                    clear R1')
               try (have R2' := Lib.hid (R2.out.below (by first | exact hb | exact over_alloc hb | exact below_undrew hb | exact over_alloc (below_dr hb) | exact below_undrew (over_alloc hb)))
                    clear R2
                    have R2 := R2'
                    clear R2')
               have HOs := HC0
               have OW := Lib.hid own
               obtain ⟨A22, n22, c22, rfl, -, -, -⟩ := own
               clear hb)
            | (go_at_call 8
               refine (impl_tainted _ _ _ l m o _ (R0.out.alloc _) (R1.out.alloc _) (R2.out.alloc _)).mono ?_
               rintro e wn ⟨vv, rfl, own, hb⟩
               have HC0 := HC.out.size
               first
               | (have HY : Hid (Fresh wn _) := Lib.hid (by first | exact Fresh.new hb | exact Fresh.new (below_dr hb))
                  have ne0 : w.heap.size ≠ _ := Nat.ne_of_lt (Nat.lt_of_lt_of_le Pz HC0)
                  have nf0 := Ne.symm ne0
                  have ne1 : w.heap.size + 1 ≠ _ := Nat.ne_of_lt (Nat.lt_of_lt_of_le Qz HC0)
                  have nf1 := Ne.symm ne1
                  have ne2 : w.heap.size + 1 + 1 ≠ _ := Nat.ne_of_lt (Nat.lt_of_lt_of_le Uz HC0)
                  have nf2 := Ne.symm ne2
                  have ne3 : g4 ≠ _ := Nat.ne_of_lt (Nat.lt_of_lt_of_le BWz HC0)
                  have nf3 := Ne.symm ne3
                  have ne4 : w5.heap.size ≠ _ := Nat.ne_of_lt (Nat.lt_of_lt_of_le Cz HC0)
                  have nf4 := Ne.symm ne4
                  have ne5 : w6.heap.size ≠ _ := Nat.ne_of_lt (Nat.lt_of_lt_of_le Dz HC0)
                  have nf5 := Ne.symm ne5
                  have ne6 : w7.heap.size ≠ _ := Nat.ne_of_lt (Nat.lt_of_lt_of_le Ez HC0)
                  have nf6 := Ne.symm ne6
                  have ne7 : w8.heap.size ≠ _ := Nat.ne_of_lt (Nat.lt_of_lt_of_le BGz HC0)
                  have nf7 := Ne.symm ne7
                  have HYl := HC0)
               | (have HYb := block_lt_of_cell HY.out.c0
                  have HY' := Lib.hid (HY.out.below (by first | exact hb | exact over_alloc hb | exact below_undrew hb | exact over_alloc (below_dr hb) | exact below_undrew (over_alloc hb)))
                  clear HY
                  have HY := HY'
                  clear HY')
               | skip
               try clear hy0 hy1 hq0 hq1
               try (have hy0 := HY.out.c0
                    have hy1 := HY.out.c1
                    have hq0 := HY.out.f0
                    have hq1 := HY.out.f1)
               have HC' : Hid (Below w21.heap.size w21 wn) := Lib.hid (by first | exact below_more HC.out hb | exact below_more HC.out (over_alloc hb) | exact below_more HC.out (below_undrew hb) | exact below_more HC.out (over_alloc (below_dr hb)) | exact below_more HC.out (below_undrew (over_alloc hb)))
               clear HC
               have HC := HC'
               clear HC'
               try clear ff0 ff1 ff2 ff3 ff4 ff5 ff6 ff7 ff8 ff9 ff10 ff11 ff12 ff13 ff14 ff15
               have ff0 : wn.cell? ⟨w.heap.size, 0, none⟩ = some (.int .i64 l.base) := (HC.out.cell (by exact Pz)).trans (by exact Pc0)
               have ff1 : wn.cell? ⟨w.heap.size, 1, none⟩ = some (.slice A n c) := (HC.out.cell (by exact Pz)).trans (by exact Pc1)
               have ff2 : wn.cell? ⟨w.heap.size + 1, 0, none⟩ = some (.int .i64 m.base) := (HC.out.cell (by exact Qz)).trans (by exact Qc0)
               have ff3 : wn.cell? ⟨w.heap.size + 1, 1, none⟩ = some (.slice B n' d) := (HC.out.cell (by exact Qz)).trans (by exact Qc1)
               have ff4 : wn.cell? ⟨w.heap.size + 1 + 1, 0, none⟩ = some (.int .i64 o.base) := (HC.out.cell (by exact Uz)).trans (by exact Uc0)
               have ff5 : wn.cell? ⟨w.heap.size + 1 + 1, 1, none⟩ = some (.slice C n'' f) := (HC.out.cell (by exact Uz)).trans (by exact Uc1)
               have ff6 : wn.cell? ⟨g4, 0, none⟩ = some (.int .i64 (taintL l m o).1.base) := (HC.out.cell (by exact BWz)).trans (by exact BWc0)
               have ff7 : wn.cell? ⟨g4, 1, none⟩ = some (.slice A4 n4 c4) := (HC.out.cell (by exact BWz)).trans (by exact BWc1)
               have ff8 : wn.cell? ⟨w5.heap.size, 0, none⟩ = some (.int .i64 l.base) := (HC.out.cell (by exact Cz)).trans (by exact Cc0)
               have ff9 : wn.cell? ⟨w5.heap.size, 1, none⟩ = some (.slice A5 n5 c5) := (HC.out.cell (by exact Cz)).trans (by exact Cc1)
               have ff10 : wn.cell? ⟨w6.heap.size, 0, none⟩ = some (.int .i64 m.base) := (HC.out.cell (by exact Dz)).trans (by exact Dc0)
               have ff11 : wn.cell? ⟨w6.heap.size, 1, none⟩ = some (.slice A6 n6 c6) := (HC.out.cell (by exact Dz)).trans (by exact Dc1)
               have ff12 : wn.cell? ⟨w7.heap.size, 0, none⟩ = some (.int .i64 o.base) := (HC.out.cell (by exact Ez)).trans (by exact Ec0)
               have ff13 : wn.cell? ⟨w7.heap.size, 1, none⟩ = some (.slice A7 n7 c7) := (HC.out.cell (by exact Ez)).trans (by exact Ec1)
               have ff14 : wn.cell? ⟨w8.heap.size, 0, none⟩ = some (.int .i64 (taintL l m o).1.base) := (HC.out.cell (by exact BGz)).trans (by exact BGc0)
               have ff15 : wn.cell? ⟨w8.heap.size, 1, none⟩ = some (.slice A8 n8 c8) := (HC.out.cell (by exact BGz)).trans (by exact BGc1)
               try (have R0' := Lib.hid (R0.out.below (by first | exact hb | exact over_alloc hb | exact below_undrew hb | exact over_alloc (below_dr hb) | exact below_undrew (over_alloc hb)))
                    clear R0
                    have R0 := R0'
                    clear R0')
               try (have R1' := Lib.hid (R1.out.below (by first | exact hb | exact over_alloc hb | exact below_undrew hb | exact over_alloc (below_dr hb) | exact below_undrew (over_alloc hb)))
                    clear R1
                    have R1 := R1'
                    clear R1')
               try (have R2' := Lib.hid (R2.out.below (by first | exact hb | exact over_alloc hb | exact below_undrew hb | exact over_alloc (below_dr hb) | exact below_undrew (over_alloc hb)))
                    clear R2
                    have R2 := R2'
                    clear R2')
               have HOs := HC0
               have OW := Lib.hid own
               obtain ⟨A22, n22, c22, rfl, -, -, -⟩ := own
               clear hb))
          all_goals
            go_wp2_with fail
            go_meet
            first
            | exact Boxed.laid HC.out OW.out HOs
            | exact Boxed.stored HC.out HYl HY.out OW.out (by first | exact HYb | (simp; done) | omega)
        obtain ⟨g22, A22, n22, c22, rfl, rfl, hb, hgo, u0, u1, own⟩ := hcut
        obtain ⟨w22, hw22⟩ : ∃ w22, w22 = wc := ⟨_, rfl⟩
        rw [← hw22] at hb u0 u1 own ⊢
        clear hw22 HC
        have H0r : Hid (∀ k, (labRow (.agg #[.int .i64 (taintL l m o).1.base, .slice A22 n22 c22])).ownBlock = some k → w21.heap.size ≤ k ∧ k < w22.heap.size) := Lib.hid (fun k hk => own.row k hk)
        have sz22 : w21.heap.size ≤ w22.heap.size := by have := hb.size; simpa using this
        have Pc0' : w22.cell? ⟨w.heap.size, 0, none⟩ = some (.int .i64 l.base) := (hb.cell (by simp; omega)).trans (by first | exact Pc0 | (simp [go_sem, Pz, Pc0]; done))
        have Pc1' : w22.cell? ⟨w.heap.size, 1, none⟩ = some (.slice A n c) := (hb.cell (by simp; omega)).trans (by first | exact Pc1 | (simp [go_sem, Pz, Pc1]; done))
        have Qc0' : w22.cell? ⟨w.heap.size + 1, 0, none⟩ = some (.int .i64 m.base) := (hb.cell (by simp; omega)).trans (by first | exact Qc0 | (simp [go_sem, Qz, Qc0]; done))
        have Qc1' : w22.cell? ⟨w.heap.size + 1, 1, none⟩ = some (.slice B n' d) := (hb.cell (by simp; omega)).trans (by first | exact Qc1 | (simp [go_sem, Qz, Qc1]; done))
        have Uc0' : w22.cell? ⟨w.heap.size + 1 + 1, 0, none⟩ = some (.int .i64 o.base) := (hb.cell (by simp; omega)).trans (by first | exact Uc0 | (simp [go_sem, Uz, Uc0]; done))
        have Uc1' : w22.cell? ⟨w.heap.size + 1 + 1, 1, none⟩ = some (.slice C n'' f) := (hb.cell (by simp; omega)).trans (by first | exact Uc1 | (simp [go_sem, Uz, Uc1]; done))
        have BWc0' : w22.cell? ⟨g4, 0, none⟩ = some (.int .i64 (taintL l m o).1.base) := (hb.cell (by simp; omega)).trans (by first | exact BWc0 | (simp [go_sem, BWz, BWc0]; done))
        have BWc1' : w22.cell? ⟨g4, 1, none⟩ = some (.slice A4 n4 c4) := (hb.cell (by simp; omega)).trans (by first | exact BWc1 | (simp [go_sem, BWz, BWc1]; done))
        have Cc0' : w22.cell? ⟨w5.heap.size, 0, none⟩ = some (.int .i64 l.base) := (hb.cell (by simp; omega)).trans (by first | exact Cc0 | (simp [go_sem, Cz, Cc0]; done))
        have Cc1' : w22.cell? ⟨w5.heap.size, 1, none⟩ = some (.slice A5 n5 c5) := (hb.cell (by simp; omega)).trans (by first | exact Cc1 | (simp [go_sem, Cz, Cc1]; done))
        have Dc0' : w22.cell? ⟨w6.heap.size, 0, none⟩ = some (.int .i64 m.base) := (hb.cell (by simp; omega)).trans (by first | exact Dc0 | (simp [go_sem, Dz, Dc0]; done))
        have Dc1' : w22.cell? ⟨w6.heap.size, 1, none⟩ = some (.slice A6 n6 c6) := (hb.cell (by simp; omega)).trans (by first | exact Dc1 | (simp [go_sem, Dz, Dc1]; done))
        have Ec0' : w22.cell? ⟨w7.heap.size, 0, none⟩ = some (.int .i64 o.base) := (hb.cell (by simp; omega)).trans (by first | exact Ec0 | (simp [go_sem, Ez, Ec0]; done))
        have Ec1' : w22.cell? ⟨w7.heap.size, 1, none⟩ = some (.slice A7 n7 c7) := (hb.cell (by simp; omega)).trans (by first | exact Ec1 | (simp [go_sem, Ez, Ec1]; done))
        have BGc0' : w22.cell? ⟨w8.heap.size, 0, none⟩ = some (.int .i64 (taintL l m o).1.base) := (hb.cell (by simp; omega)).trans (by first | exact BGc0 | (simp [go_sem, BGz, BGc0]; done))
        have BGc1' : w22.cell? ⟨w8.heap.size, 1, none⟩ = some (.slice A8 n8 c8) := (hb.cell (by simp; omega)).trans (by first | exact BGc1 | (simp [go_sem, BGz, BGc1]; done))
        clear Pc0 Pc1 Qc0 Qc1 Uc0 Uc1 BWc0 BWc1 Cc0 Cc1 Dc0 Dc1 Ec0 Ec1 BGc0 BGc1 Pz Qz Uz BWz Cz Dz Ez BGz
        have Pc0 := Pc0'
        have Pc1 := Pc1'
        have Pz := block_lt_of_cell Pc0
        have Qc0 := Qc0'
        have Qc1 := Qc1'
        have Qz := block_lt_of_cell Qc0
        have Uc0 := Uc0'
        have Uc1 := Uc1'
        have Uz := block_lt_of_cell Uc0
        have BWc0 := BWc0'
        have BWc1 := BWc1'
        have BWz := block_lt_of_cell BWc0
        have Cc0 := Cc0'
        have Cc1 := Cc1'
        have Cz := block_lt_of_cell Cc0
        have Dc0 := Dc0'
        have Dc1 := Dc1'
        have Dz := block_lt_of_cell Dc0
        have Ec0 := Ec0'
        have Ec1 := Ec1'
        have Ez := block_lt_of_cell Ec0
        have BGc0 := BGc0'
        have BGc1 := BGc1'
        have BGz := block_lt_of_cell BGc0
        clear Pc0' Pc1' Qc0' Qc1' Uc0' Uc1' BWc0' BWc1' Cc0' Cc1' Dc0' Dc1' Ec0' Ec1' BGc0' BGc1'
        have W0' := Lib.hid (by first | exact W0.out.below hb | exact W0.out.over hb | exact W0.out.below (below_undrew hb))
        clear W0
        have W0 := W0'
        clear W0'
        have G0' := Lib.hid (by first | exact G0.out.below hb | exact G0.out.over hb | exact G0.out.below (below_undrew hb))
        clear G0
        have G0 := G0'
        clear G0'
        have bel' : Below w.heap.size w w22 := bel.trans ((by first | exact hb | exact over_alloc hb | exact below_undrew hb : Below w21.heap.size w21 w22).mono bel.size)
        clear bel hb
        have bel := bel'
        clear bel'
        have H0 := Lib.hid own
        clear own hgo
        have BHc0 := u0
        have BHc1 := u1
        have BHz := block_lt_of_cell u0
        have hgu22 := block_lt_of_cell u0
        clear u0 u1
        go_wp2_with fail
        refine (eq_lab _ _ (taintL l m o).1 (taintL l m o).1 _ (by first | exact H0.out.rd | exact H0.out.rd.alloc _) (by first | exact W0.out.rd | exact W0.out.rd.alloc _)).mono ?_
        rintro e w23 ⟨rfl, hb⟩
        have sz23 : w22.heap.size ≤ w23.heap.size := by have := hb.size; simpa using this
        have Pc0' : w23.cell? ⟨w.heap.size, 0, none⟩ = some (.int .i64 l.base) := (hb.cell (by simp; omega)).trans (by first | exact Pc0 | (simp [go_sem, Pz, Pc0]; done))
        have Pc1' : w23.cell? ⟨w.heap.size, 1, none⟩ = some (.slice A n c) := (hb.cell (by simp; omega)).trans (by first | exact Pc1 | (simp [go_sem, Pz, Pc1]; done))
        have Qc0' : w23.cell? ⟨w.heap.size + 1, 0, none⟩ = some (.int .i64 m.base) := (hb.cell (by simp; omega)).trans (by first | exact Qc0 | (simp [go_sem, Qz, Qc0]; done))
        have Qc1' : w23.cell? ⟨w.heap.size + 1, 1, none⟩ = some (.slice B n' d) := (hb.cell (by simp; omega)).trans (by first | exact Qc1 | (simp [go_sem, Qz, Qc1]; done))
        have Uc0' : w23.cell? ⟨w.heap.size + 1 + 1, 0, none⟩ = some (.int .i64 o.base) := (hb.cell (by simp; omega)).trans (by first | exact Uc0 | (simp [go_sem, Uz, Uc0]; done))
        have Uc1' : w23.cell? ⟨w.heap.size + 1 + 1, 1, none⟩ = some (.slice C n'' f) := (hb.cell (by simp; omega)).trans (by first | exact Uc1 | (simp [go_sem, Uz, Uc1]; done))
        have BWc0' : w23.cell? ⟨g4, 0, none⟩ = some (.int .i64 (taintL l m o).1.base) := (hb.cell (by simp; omega)).trans (by first | exact BWc0 | (simp [go_sem, BWz, BWc0]; done))
        have BWc1' : w23.cell? ⟨g4, 1, none⟩ = some (.slice A4 n4 c4) := (hb.cell (by simp; omega)).trans (by first | exact BWc1 | (simp [go_sem, BWz, BWc1]; done))
        have Cc0' : w23.cell? ⟨w5.heap.size, 0, none⟩ = some (.int .i64 l.base) := (hb.cell (by simp; omega)).trans (by first | exact Cc0 | (simp [go_sem, Cz, Cc0]; done))
        have Cc1' : w23.cell? ⟨w5.heap.size, 1, none⟩ = some (.slice A5 n5 c5) := (hb.cell (by simp; omega)).trans (by first | exact Cc1 | (simp [go_sem, Cz, Cc1]; done))
        have Dc0' : w23.cell? ⟨w6.heap.size, 0, none⟩ = some (.int .i64 m.base) := (hb.cell (by simp; omega)).trans (by first | exact Dc0 | (simp [go_sem, Dz, Dc0]; done))
        have Dc1' : w23.cell? ⟨w6.heap.size, 1, none⟩ = some (.slice A6 n6 c6) := (hb.cell (by simp; omega)).trans (by first | exact Dc1 | (simp [go_sem, Dz, Dc1]; done))
        have Ec0' : w23.cell? ⟨w7.heap.size, 0, none⟩ = some (.int .i64 o.base) := (hb.cell (by simp; omega)).trans (by first | exact Ec0 | (simp [go_sem, Ez, Ec0]; done))
        have Ec1' : w23.cell? ⟨w7.heap.size, 1, none⟩ = some (.slice A7 n7 c7) := (hb.cell (by simp; omega)).trans (by first | exact Ec1 | (simp [go_sem, Ez, Ec1]; done))
        have BGc0' : w23.cell? ⟨w8.heap.size, 0, none⟩ = some (.int .i64 (taintL l m o).1.base) := (hb.cell (by simp; omega)).trans (by first | exact BGc0 | (simp [go_sem, BGz, BGc0]; done))
        have BGc1' : w23.cell? ⟨w8.heap.size, 1, none⟩ = some (.slice A8 n8 c8) := (hb.cell (by simp; omega)).trans (by first | exact BGc1 | (simp [go_sem, BGz, BGc1]; done))
        have BHc0' : w23.cell? ⟨g22, 0, none⟩ = some (.int .i64 (taintL l m o).1.base) := (hb.cell (by simp; omega)).trans (by first | exact BHc0 | (simp [go_sem, BHz, BHc0]; done))
        have BHc1' : w23.cell? ⟨g22, 1, none⟩ = some (.slice A22 n22 c22) := (hb.cell (by simp; omega)).trans (by first | exact BHc1 | (simp [go_sem, BHz, BHc1]; done))
        clear Pc0 Pc1 Qc0 Qc1 Uc0 Uc1 BWc0 BWc1 Cc0 Cc1 Dc0 Dc1 Ec0 Ec1 BGc0 BGc1 BHc0 BHc1 Pz Qz Uz BWz Cz Dz Ez BGz BHz
        have Pc0 := Pc0'
        have Pc1 := Pc1'
        have Pz := block_lt_of_cell Pc0
        have Qc0 := Qc0'
        have Qc1 := Qc1'
        have Qz := block_lt_of_cell Qc0
        have Uc0 := Uc0'
        have Uc1 := Uc1'
        have Uz := block_lt_of_cell Uc0
        have BWc0 := BWc0'
        have BWc1 := BWc1'
        have BWz := block_lt_of_cell BWc0
        have Cc0 := Cc0'
        have Cc1 := Cc1'
        have Cz := block_lt_of_cell Cc0
        have Dc0 := Dc0'
        have Dc1 := Dc1'
        have Dz := block_lt_of_cell Dc0
        have Ec0 := Ec0'
        have Ec1 := Ec1'
        have Ez := block_lt_of_cell Ec0
        have BGc0 := BGc0'
        have BGc1 := BGc1'
        have BGz := block_lt_of_cell BGc0
        have BHc0 := BHc0'
        have BHc1 := BHc1'
        have BHz := block_lt_of_cell BHc0
        clear Pc0' Pc1' Qc0' Qc1' Uc0' Uc1' BWc0' BWc1' Cc0' Cc1' Dc0' Dc1' Ec0' Ec1' BGc0' BGc1' BHc0' BHc1'
        have W0' := Lib.hid (by first | exact W0.out.below hb | exact W0.out.over hb | exact W0.out.below (below_undrew hb))
        clear W0
        have W0 := W0'
        clear W0'
        have G0' := Lib.hid (by first | exact G0.out.below hb | exact G0.out.over hb | exact G0.out.below (below_undrew hb))
        clear G0
        have G0 := G0'
        clear G0'
        have H0' := Lib.hid (by first | exact H0.out.below hb | exact H0.out.over hb | exact H0.out.below (below_undrew hb))
        clear H0
        have H0 := H0'
        clear H0'
        have bel' : Below w.heap.size w w23 := bel.trans ((by first | exact hb | exact over_alloc hb | exact below_undrew hb : Below w22.heap.size w22 w23).mono bel.size)
        clear bel hb
        have bel := bel'
        clear bel'
        go_wp2_with fail
        refine (held_lab _ (taintL l m o).1 1 _ (by omega) (by omega) G0.out.rd).mono ?_
        rintro e w24 ⟨rfl, hb⟩
        have sz24 : w23.heap.size ≤ w24.heap.size := by have := hb.size; simpa using this
        have Pc0' : w24.cell? ⟨w.heap.size, 0, none⟩ = some (.int .i64 l.base) := (hb.cell (by simp; omega)).trans (by first | exact Pc0 | (simp [go_sem, Pz, Pc0]; done))
        have Pc1' : w24.cell? ⟨w.heap.size, 1, none⟩ = some (.slice A n c) := (hb.cell (by simp; omega)).trans (by first | exact Pc1 | (simp [go_sem, Pz, Pc1]; done))
        have Qc0' : w24.cell? ⟨w.heap.size + 1, 0, none⟩ = some (.int .i64 m.base) := (hb.cell (by simp; omega)).trans (by first | exact Qc0 | (simp [go_sem, Qz, Qc0]; done))
        have Qc1' : w24.cell? ⟨w.heap.size + 1, 1, none⟩ = some (.slice B n' d) := (hb.cell (by simp; omega)).trans (by first | exact Qc1 | (simp [go_sem, Qz, Qc1]; done))
        have Uc0' : w24.cell? ⟨w.heap.size + 1 + 1, 0, none⟩ = some (.int .i64 o.base) := (hb.cell (by simp; omega)).trans (by first | exact Uc0 | (simp [go_sem, Uz, Uc0]; done))
        have Uc1' : w24.cell? ⟨w.heap.size + 1 + 1, 1, none⟩ = some (.slice C n'' f) := (hb.cell (by simp; omega)).trans (by first | exact Uc1 | (simp [go_sem, Uz, Uc1]; done))
        have BWc0' : w24.cell? ⟨g4, 0, none⟩ = some (.int .i64 (taintL l m o).1.base) := (hb.cell (by simp; omega)).trans (by first | exact BWc0 | (simp [go_sem, BWz, BWc0]; done))
        have BWc1' : w24.cell? ⟨g4, 1, none⟩ = some (.slice A4 n4 c4) := (hb.cell (by simp; omega)).trans (by first | exact BWc1 | (simp [go_sem, BWz, BWc1]; done))
        have Cc0' : w24.cell? ⟨w5.heap.size, 0, none⟩ = some (.int .i64 l.base) := (hb.cell (by simp; omega)).trans (by first | exact Cc0 | (simp [go_sem, Cz, Cc0]; done))
        have Cc1' : w24.cell? ⟨w5.heap.size, 1, none⟩ = some (.slice A5 n5 c5) := (hb.cell (by simp; omega)).trans (by first | exact Cc1 | (simp [go_sem, Cz, Cc1]; done))
        have Dc0' : w24.cell? ⟨w6.heap.size, 0, none⟩ = some (.int .i64 m.base) := (hb.cell (by simp; omega)).trans (by first | exact Dc0 | (simp [go_sem, Dz, Dc0]; done))
        have Dc1' : w24.cell? ⟨w6.heap.size, 1, none⟩ = some (.slice A6 n6 c6) := (hb.cell (by simp; omega)).trans (by first | exact Dc1 | (simp [go_sem, Dz, Dc1]; done))
        have Ec0' : w24.cell? ⟨w7.heap.size, 0, none⟩ = some (.int .i64 o.base) := (hb.cell (by simp; omega)).trans (by first | exact Ec0 | (simp [go_sem, Ez, Ec0]; done))
        have Ec1' : w24.cell? ⟨w7.heap.size, 1, none⟩ = some (.slice A7 n7 c7) := (hb.cell (by simp; omega)).trans (by first | exact Ec1 | (simp [go_sem, Ez, Ec1]; done))
        have BGc0' : w24.cell? ⟨w8.heap.size, 0, none⟩ = some (.int .i64 (taintL l m o).1.base) := (hb.cell (by simp; omega)).trans (by first | exact BGc0 | (simp [go_sem, BGz, BGc0]; done))
        have BGc1' : w24.cell? ⟨w8.heap.size, 1, none⟩ = some (.slice A8 n8 c8) := (hb.cell (by simp; omega)).trans (by first | exact BGc1 | (simp [go_sem, BGz, BGc1]; done))
        have BHc0' : w24.cell? ⟨g22, 0, none⟩ = some (.int .i64 (taintL l m o).1.base) := (hb.cell (by simp; omega)).trans (by first | exact BHc0 | (simp [go_sem, BHz, BHc0]; done))
        have BHc1' : w24.cell? ⟨g22, 1, none⟩ = some (.slice A22 n22 c22) := (hb.cell (by simp; omega)).trans (by first | exact BHc1 | (simp [go_sem, BHz, BHc1]; done))
        clear Pc0 Pc1 Qc0 Qc1 Uc0 Uc1 BWc0 BWc1 Cc0 Cc1 Dc0 Dc1 Ec0 Ec1 BGc0 BGc1 BHc0 BHc1 Pz Qz Uz BWz Cz Dz Ez BGz BHz
        have Pc0 := Pc0'
        have Pc1 := Pc1'
        have Pz := block_lt_of_cell Pc0
        have Qc0 := Qc0'
        have Qc1 := Qc1'
        have Qz := block_lt_of_cell Qc0
        have Uc0 := Uc0'
        have Uc1 := Uc1'
        have Uz := block_lt_of_cell Uc0
        have BWc0 := BWc0'
        have BWc1 := BWc1'
        have BWz := block_lt_of_cell BWc0
        have Cc0 := Cc0'
        have Cc1 := Cc1'
        have Cz := block_lt_of_cell Cc0
        have Dc0 := Dc0'
        have Dc1 := Dc1'
        have Dz := block_lt_of_cell Dc0
        have Ec0 := Ec0'
        have Ec1 := Ec1'
        have Ez := block_lt_of_cell Ec0
        have BGc0 := BGc0'
        have BGc1 := BGc1'
        have BGz := block_lt_of_cell BGc0
        have BHc0 := BHc0'
        have BHc1 := BHc1'
        have BHz := block_lt_of_cell BHc0
        clear Pc0' Pc1' Qc0' Qc1' Uc0' Uc1' BWc0' BWc1' Cc0' Cc1' Dc0' Dc1' Ec0' Ec1' BGc0' BGc1' BHc0' BHc1'
        have W0' := Lib.hid (by first | exact W0.out.below hb | exact W0.out.over hb | exact W0.out.below (below_undrew hb))
        clear W0
        have W0 := W0'
        clear W0'
        have G0' := Lib.hid (by first | exact G0.out.below hb | exact G0.out.over hb | exact G0.out.below (below_undrew hb))
        clear G0
        have G0 := G0'
        clear G0'
        have H0' := Lib.hid (by first | exact H0.out.below hb | exact H0.out.over hb | exact H0.out.below (below_undrew hb))
        clear H0
        have H0 := H0'
        clear H0'
        have bel' : Below w.heap.size w w24 := bel.trans ((by first | exact hb | exact over_alloc hb | exact below_undrew hb : Below w23.heap.size w23 w24).mono bel.size)
        clear bel hb
        have bel := bel'
        clear bel'
        go_wp2
        go_ret
        exact ⟨rfl, bel⟩
      · clear hn0 g0 hn1 g1 hn2 g2
        go_enter Try.func5, Try.ntmps5
        have hge : ¬ (1048576 : Int) - n < 0 := by omega
        go_wp2_with fail
        refine (sz_lab_yes A n c l.base 1048576 _ (by omega) (by omega) (by omega)).mono ?_
        rintro e w1 ⟨rfl, hb⟩
        obtain ⟨⟨Pc0, Pc1⟩, ⟨Qc0, Qc1⟩, ⟨Uc0, Uc1⟩, Uz, bel⟩ := box6 hb
        clear hb
        have hge1 : ¬ (1048576 : Int) - n - n' < 0 := by omega
        go_wp2_with fail
        refine (sz_lab_yes B n' d m.base (1048576 - n) _ (by omega) (by omega) (by omega)).mono ?_
        rintro e w2 ⟨rfl, hb⟩
        have Uc0' := (hb.cell (p := ⟨w.heap.size + 1 + 1, 0, none⟩) (by simp only []; omega)).trans Uc0
        have Uc1' := (hb.cell (p := ⟨w.heap.size + 1 + 1, 1, none⟩) (by simp only []; omega)).trans Uc1
        have bel' := below_more bel hb
        clear hb bel Uc0 Uc1
        have bel := bel'
        go_wp2_with fail
        refine (sz_lab_no C n'' f o.base (1048576 - n - n') _ (by omega) (by omega) (by omega) (by omega)).mono ?_
        rintro e w3 ⟨rfl, hb⟩
        go_wp2
        go_ret
        exact ⟨rfl, below_more bel hb⟩
    · clear hn0 g0 hn1 g1 hn2 g2
      go_enter Try.func5, Try.ntmps5
      have hge : ¬ (1048576 : Int) - n < 0 := by omega
      go_wp2_with fail
      refine (sz_lab_yes A n c l.base 1048576 _ (by omega) (by omega) (by omega)).mono ?_
      rintro e w1 ⟨rfl, hb⟩
      obtain ⟨⟨Pc0, Pc1⟩, ⟨Qc0, Qc1⟩, ⟨Uc0, Uc1⟩, Uz, bel⟩ := box6 hb
      clear hb
      go_wp2_with fail
      refine (sz_lab_no B n' d m.base (1048576 - n) _ (by omega) (by omega) (by omega) (by omega)).mono ?_
      rintro e w3 ⟨rfl, hb⟩
      go_wp2
      go_ret
      exact ⟨rfl, below_more bel hb⟩
  · clear hn0 g0 hn1 g1 hn2 g2
    go_enter Try.func5, Try.ntmps5
    go_wp2_with fail
    refine (sz_lab_no _ _ _ _ _ _ (by omega) (by omega) (by omega) (by omega)).mono ?_
    rintro e w1 ⟨rfl, hb⟩
    go_wp2
    go_ret
    exact ⟨rfl, (box6 hb).2.2.2.2⟩

set_option maxRecDepth 100000 in
theorem lifted (os : Os) (started : os.Started) (H : Type) (enc : TypeId × Value → H) :
    ReturnsInHanded {} Try.checked os 5 .any (Rows.fnExactTaintedSpec.pre6 enc Try.prog Try.f5 Rows.fnExactTaintedRow.domain false) (Rows.fnExactTaintedSpec.post enc Try.prog Try.f5 false true false false) := by
  refine returnsInHanded_of_change (C := Try.checked) own started (by kernel_rfl) Try.func5
    (ChangeSpec.witness6 (enc := enc) (C := Try.checked) false ⟨#[], #[.agg #[.int .i64 0, .slice none 0 0], .agg #[.int .i64 0, .slice none 0 0], .agg #[.int .i64 0, .slice none 0 0]], []⟩ 8 (by kernel_rfl) (by kernel_rfl) (by kernel_rfl) (by kernel_rfl)) ?_
  intro W base args ds gs before hval0 hW hcnd _
  have hval : ∀ (j : Nat) t v, Try.f5.params[j]? = some t → args[j]? = some v → Value.okWide Try.prog W .any base t v := hval0
  have hW' := hW
  obtain ⟨p, q, hA0, hV, rfl, hfz, hnd⟩ := hW
  have hA : DataW.TrodAll enc Try.prog W 0 (fun _ => true) true Try.f5.params.toList args.toList ds p := hA0
  rw [Try.params5] at hA hval
  obtain ⟨v0, vs0, d0, ds0, p0, q0, hargs, rfl, rfl, h0, r0⟩ := trodAll_cons hA
  obtain ⟨v1, vs1, d1, ds1, p1, q1, rfl, rfl, rfl, h1, r1⟩ := trodAll_cons r0
  obtain ⟨v2, vs2, d2, ds2, p2, q2, rfl, rfl, rfl, h2, r2⟩ := trodAll_cons r1
  obtain ⟨rfl, rfl, rfl⟩ := trodAll_nil r2
  obtain rfl : args = #[v0, v1, v2] := by cases args; simp_all
  obtain ⟨rfl, rfl⟩ := trodVars_none hV
  have k0 := h0
  have lt0 : ∀ x ∈ p0, x.block < W.heap.size := by obtain ⟨m, hm⟩ := k0; exact DataW.trod_lt m _ _ _ hm
  have k1 := h1
  have lt1 : ∀ x ∈ p1, x.block < W.heap.size := by obtain ⟨m, hm⟩ := k1; exact DataW.trod_lt m _ _ _ hm
  have k2 := h2
  have lt2 : ∀ x ∈ p2, x.block < W.heap.size := by obtain ⟨m, hm⟩ := k2; exact DataW.trod_lt m _ _ _ hm
  obtain ⟨l0, hl0⟩ := open_lab (hval 0 40 v0 rfl rfl) h0
  obtain ⟨l1, hl1⟩ := open_lab (hval 1 40 v1 rfl rfl) h1
  obtain ⟨l2, hl2⟩ := open_lab (hval 2 40 v2 rfl rfl) h2
  clear hA0 hval0
  refine (walk v0 l0 hl0 v1 l1 hl1 v2 l2 hl2 (w := W)).mono fun e W' ⟨he, bel⟩ => ?_
  subst he
  exact ⟨_, rfl, _, _, _, [], _, [], hW', (trodAll_cons_mk (shut_bool Try.underlying4 _) trodAll_mk0), (trodAll_cons_mk (Below.trod laidOut (by kernel_rfl) (of_decide_eq_true (by kernel_rfl)) k0 bel lt0) (trodAll_cons_mk (Below.trod laidOut (by kernel_rfl) (of_decide_eq_true (by kernel_rfl)) k1 bel lt1) (trodAll_cons_mk (Below.trod laidOut (by kernel_rfl) (of_decide_eq_true (by kernel_rfl)) k2 bel lt2) trodAll_mk0))), rfl, bel.frame _, fun h => by cases h⟩

theorem said : Rows.FnExactTaintedSaid :=
  OpenClaim.holds_of_wide 5 Try.f5 rfl rfl rfl rfl rfl rfl rfl ⟨rfl, rfl, rfl, rfl, rfl⟩ rfl rfl rfl rfl rfl (by kernel_rfl) Try.func5 (by kernel_rfl)
    (of_decide_eq_true (by kernel_rfl)) (by unfold Func.isWrapper; first | (rw [if_pos (by decide +kernel)]; kernel_rfl) | (rw [if_neg (by decide +kernel)]; exact ⟨rfl, rfl⟩))
    (fun os started H enc _ => lifted os started H enc)

theorem proved : Rows.FnExactTaintedSaid := said
#print axioms proved
end Go.Proofs.Ytjdnobihhkmmpaa.fnExactTainted
