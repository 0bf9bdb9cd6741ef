/-
  FnExactHandlesOf: whatever the input, the law returns true and its arguments read as they did; no condition.
-/
import Derived.Test.YtobggbejkfkodaaBase
import Derived.Test.YtobggbejkfkodaaRows
import Derived.Test.YtobggbejkfkodaaOpen
import Derived.Test.YtobggbejkfkodaaSpecLab5
import Derived.Test.YtobggbejkfkodaaImplHand
namespace Go.Proofs.Ytobggbejkfkodaa.fnExactHandlesOf
set_option maxRecDepth 100000
open Go.ChangeShapes Go.WideShapes Go.ChangeAt Go.RowKit
open Go.ChangeMaps (open_string shut_string)
set_option linter.unusedVariables false

theorem handlesOf_length (l m : Lab) : (handlesOf l m).length ≤ 1000 := by
  unfold handlesOf
  split
  · rename_i h
    simp only [Bool.and_eq_true] at h
    have h1 := labOk_short h.1
    have h2 := labOk_short h.2
    have h3 := handlesIn_length [] l.parts
    have h4 := handlesIn_length (handlesIn [] l.parts) m.parts
    simp at h3
    omega
  · simp

set_option maxHeartbeats 4000000 in
theorem walk {w : World} (v : Value) (l : Lab) (h : ArgLab w v l) (u : Value) (m : Lab) (g : ArgLab w u m) :
    Calls Try.prog 7 #[v, u] w fun e w' => e = .returned (.bool true) ∧ Below w.heap.size w w' := by
  have h0 := h
  have g0 := g
  obtain ⟨A, n, c, rfl, hn, hc, hm, -⟩ := h
  obtain ⟨B, n', d, rfl, hn', hd, hdm, -⟩ := g
  have hm' : n ≤ 9223372036854775807 := by unfold maxLen at hm; omega
  have hdm' : n' ≤ 9223372036854775807 := by unfold maxLen at hdm; omega
  clear hc hm hd hdm
  by_cases hbig : n ≤ 1048576
  · have hr := h0.rd (by omega)
    by_cases hbig2 : n + n' ≤ 1048576
    · have hq := g0.rd (by omega)
      have hln : l.parts.length ≤ 1048576 := by omega
      have hlm : m.parts.length ≤ 1048576 := by omega
      clear h0 g0 hn hn'
      go_enter Try.func7, Try.ntmps7
      go_wp2_with fail
      refine (sz_lab_yes A n c l.base 1048576 _ (by omega) (by omega) (by omega)).mono ?_
      rintro e w1 ⟨rfl, hb⟩
      obtain ⟨⟨Pc0, Pc1⟩, ⟨Qc0, Qc1⟩, Qz, bel⟩ := box4 hb
      have Pz : w.heap.size < w1.heap.size := by omega
      have sz1 := Qz
      have hge : ¬ (1048576 : Int) - n < 0 := by omega
      clear hb
      have hge2 : ¬ (1048576 : Int) - n - n' < 0 := by omega
      go_wp2_with fail
      refine (sz_lab_yes B n' d m.base (1048576 - n) _ (by omega) (by omega) (by omega)).mono ?_
      rintro e w2 ⟨rfl, hb⟩
      have sz2 : w1.heap.size ≤ w2.heap.size := by have := hb.size; simpa using this
      have Pc0' : w2.cell? ⟨w.heap.size, 0, none⟩ = some (.int .i64 l.base) := (hb.cell (by simp; omega)).trans (by first | exact Pc0 | (simp [go_sem, Pz, Pc0]; done))
      have Pc1' : w2.cell? ⟨w.heap.size, 1, none⟩ = some (.slice A n c) := (hb.cell (by simp; omega)).trans (by first | exact Pc1 | (simp [go_sem, Pz, Pc1]; done))
      have Qc0' : w2.cell? ⟨w.heap.size + 1, 0, none⟩ = some (.int .i64 m.base) := (hb.cell (by simp; omega)).trans (by first | exact Qc0 | (simp [go_sem, Qz, Qc0]; done))
      have Qc1' : w2.cell? ⟨w.heap.size + 1, 1, none⟩ = some (.slice B n' d) := (hb.cell (by simp; omega)).trans (by first | exact Qc1 | (simp [go_sem, Qz, Qc1]; done))
      clear Pc0 Pc1 Qc0 Qc1 Pz Qz
      have Pc0 := Pc0'
      have Pc1 := Pc1'
      have Pz := block_lt_of_cell Pc0
      have Qc0 := Qc0'
      have Qc1 := Qc1'
      have Qz := block_lt_of_cell Qc0
      clear Pc0' Pc1' Qc0' Qc1'
      have bel' : Below w.heap.size w w2 := bel.trans ((by first | exact hb | exact over_alloc hb | exact below_undrew hb : Below w1.heap.size w1 w2).mono bel.size)
      clear bel hb
      have bel := bel'
      clear bel'
      have hlen := handlesOf_length l m
      have heqn := nmeq_rfl (handlesOf l m)
      go_wp2
      go_region_held3 (fun w' => w'.cell? ⟨w.heap.size, 0, none⟩ = some (.int .i64 l.base) ∧ w'.cell? ⟨w.heap.size, 1, none⟩ = some (.slice A n c) ∧ w'.cell? ⟨w.heap.size + 1, 0, none⟩ = some (.int .i64 m.base) ∧ w'.cell? ⟨w.heap.size + 1, 1, none⟩ = some (.slice B n' d))
        (first | exact ⟨kd0, kd1, kd2, kd3⟩ | exact ⟨kb0, kb1, kb2, kb3⟩ | exact ⟨ka0, ka1, ka2, ka3⟩ | go_keep)
        (first
        | (go_at_call_of 11 (Value.agg #[Value.int IntKind.i64 l.base, Value.slice A n c])
           refine (to_lab _ l _ (hr.below (by first | exact bel | exact bel.drew))).mono ?_
           rintro e w3 ⟨va, rfl, owna, hba⟩
           have ka0 : w3.cell? ⟨w.heap.size, 0, none⟩ = some (.int .i64 l.base) := (hba.cell (by simp; omega)).trans (by exact Pc0)
           have za0 : w.heap.size < w3.heap.size := block_lt_of_cell ka0
           have ka1 : w3.cell? ⟨w.heap.size, 1, none⟩ = some (.slice A n c) := (hba.cell (by simp; omega)).trans (by exact Pc1)
           have za1 : w.heap.size < w3.heap.size := block_lt_of_cell ka1
           have ka2 : w3.cell? ⟨w.heap.size + 1, 0, none⟩ = some (.int .i64 m.base) := (hba.cell (by simp; omega)).trans (by exact Qc0)
           have za2 : w.heap.size + 1 < w3.heap.size := block_lt_of_cell ka2
           have ka3 : w3.cell? ⟨w.heap.size + 1, 1, none⟩ = some (.slice B n' d) := (hba.cell (by simp; omega)).trans (by exact Qc1)
           have za3 : w.heap.size + 1 < w3.heap.size := block_lt_of_cell ka3
           have HBA : Hid (Below w2.heap.size w2 w3) := (by first | exact hba | exact below_undrew hba)
           have bela : Below w.heap.size w w3 := bel.trans (HBA.out.mono bel.size)
           have RA := Lib.hid owna.rd
           obtain ⟨Aa, na, ca, rfl, -, -, -⟩ := owna
           clear hba)
        | (go_at_call_of 11 (Value.agg #[Value.int IntKind.i64 m.base, Value.slice B n' d])
           refine (to_lab _ m _ (hq.below (by exact bela))).mono ?_
           rintro e w4 ⟨vb, rfl, ownb, hbb⟩
           have kb0 : w4.cell? ⟨w.heap.size, 0, none⟩ = some (.int .i64 l.base) := (hbb.cell (by simp; omega)).trans (by exact ka0)
           have zb0 : w.heap.size < w4.heap.size := block_lt_of_cell kb0
           have kb1 : w4.cell? ⟨w.heap.size, 1, none⟩ = some (.slice A n c) := (hbb.cell (by simp; omega)).trans (by exact ka1)
           have zb1 : w.heap.size < w4.heap.size := block_lt_of_cell kb1
           have kb2 : w4.cell? ⟨w.heap.size + 1, 0, none⟩ = some (.int .i64 m.base) := (hbb.cell (by simp; omega)).trans (by exact ka2)
           have zb2 : w.heap.size + 1 < w4.heap.size := block_lt_of_cell kb2
           have kb3 : w4.cell? ⟨w.heap.size + 1, 1, none⟩ = some (.slice B n' d) := (hbb.cell (by simp; omega)).trans (by exact ka3)
           have zb3 : w.heap.size + 1 < w4.heap.size := block_lt_of_cell kb3
           have HBB : Hid (Below w2.heap.size w2 w4) := HBA.out.trans (hbb.mono HBA.out.size)
           have RA' := Lib.hid (RA.out.below hbb)
           have RB := Lib.hid ownb.rd
           obtain ⟨Ab, nb, cb, rfl, -, -, -⟩ := ownb
           clear hbb RA)
        | (go_at_call 22
           refine (spec_handlesof _ _ l m _ RA'.out RB.out).mono ?_
           rintro e w5 ⟨v5, rfl, own, hbd⟩
           obtain ⟨A5, c5, rfl, -, -, -⟩ := own_at own
           have kd0 : w5.cell? ⟨w.heap.size, 0, none⟩ = some (.int .i64 l.base) := (hbd.cell (by simp; omega)).trans (by exact kb0)
           have zd0 : w.heap.size < w5.heap.size := block_lt_of_cell kd0
           have kd1 : w5.cell? ⟨w.heap.size, 1, none⟩ = some (.slice A n c) := (hbd.cell (by simp; omega)).trans (by exact kb1)
           have zd1 : w.heap.size < w5.heap.size := block_lt_of_cell kd1
           have kd2 : w5.cell? ⟨w.heap.size + 1, 0, none⟩ = some (.int .i64 m.base) := (hbd.cell (by simp; omega)).trans (by exact kb2)
           have zd2 : w.heap.size + 1 < w5.heap.size := block_lt_of_cell kd2
           have kd3 : w5.cell? ⟨w.heap.size + 1, 1, none⟩ = some (.slice B n' d) := (hbd.cell (by simp; omega)).trans (by exact kb3)
           have zd3 : w.heap.size + 1 < w5.heap.size := block_lt_of_cell kd3
           have HBD : Hid (Below w2.heap.size w2 w5) := HBB.out.trans (hbd.mono HBB.out.size)
           have W0r : Hid (∀ k, (Value.slice A5 (handlesOf l m).length c5).ownBlock = some k → w2.heap.size ≤ k ∧ k < w5.heap.size) := fun k hk => by have := own.lt k hk; have := HBB.out.size; omega
           have OW := Lib.hid own
           clear hbd own))
      have hb := HBD.out
      have own := OW.out
      clear HBD HBB HBA RA' RB OW bela ka0 za0 ka1 za1 ka2 za2 ka3 za3 kb0 zb0 kb1 zb1 kb2 zb2 kb3 zb3 kd0 zd0 kd1 zd1 kd2 zd2 kd3 zd3
      have sz5 : w2.heap.size ≤ w5.heap.size := by have := hb.size; simpa using this
      have Pc0' : w5.cell? ⟨w.heap.size, 0, none⟩ = some (.int .i64 l.base) := (hb.cell (by simp; omega)).trans (by first | exact Pc0 | (simp [go_sem, Pz, Pc0]; done))
      have Pc1' : w5.cell? ⟨w.heap.size, 1, none⟩ = some (.slice A n c) := (hb.cell (by simp; omega)).trans (by first | exact Pc1 | (simp [go_sem, Pz, Pc1]; done))
      have Qc0' : w5.cell? ⟨w.heap.size + 1, 0, none⟩ = some (.int .i64 m.base) := (hb.cell (by simp; omega)).trans (by first | exact Qc0 | (simp [go_sem, Qz, Qc0]; done))
      have Qc1' : w5.cell? ⟨w.heap.size + 1, 1, none⟩ = some (.slice B n' d) := (hb.cell (by simp; omega)).trans (by first | exact Qc1 | (simp [go_sem, Qz, Qc1]; done))
      clear Pc0 Pc1 Qc0 Qc1 Pz Qz
      have Pc0 := Pc0'
      have Pc1 := Pc1'
      have Pz := block_lt_of_cell Pc0
      have Qc0 := Qc0'
      have Qc1 := Qc1'
      have Qz := block_lt_of_cell Qc0
      clear Pc0' Pc1' Qc0' Qc1'
      have bel' : Below w.heap.size w w5 := bel.trans ((by first | exact hb | exact over_alloc hb | exact below_undrew hb : Below w2.heap.size w2 w5).mono bel.size)
      clear bel hb
      have bel := bel'
      clear bel'
      have W0 := Lib.hid own
      clear own
      go_wp2_with fail
      refine (to_lab _ l _ (by first | exact hr.below bel | exact hr.below (bel.alloc bel.size _))).mono ?_
      rintro e w6 ⟨v6, rfl, own, hb⟩
      have X0r : Hid (∀ k, (labRow v6).ownBlock = some k → w5.heap.size ≤ k ∧ k < w6.heap.size) := fun k hk => by have := own.row k hk; simpa using this
      have sz6 : w5.heap.size ≤ w6.heap.size := by have := hb.size; simpa using this
      have Pc0' : w6.cell? ⟨w.heap.size, 0, none⟩ = some (.int .i64 l.base) := (hb.cell (by simp; omega)).trans (by first | exact Pc0 | (simp [go_sem, Pz, Pc0]; done))
      have Pc1' : w6.cell? ⟨w.heap.size, 1, none⟩ = some (.slice A n c) := (hb.cell (by simp; omega)).trans (by first | exact Pc1 | (simp [go_sem, Pz, Pc1]; done))
      have Qc0' : w6.cell? ⟨w.heap.size + 1, 0, none⟩ = some (.int .i64 m.base) := (hb.cell (by simp; omega)).trans (by first | exact Qc0 | (simp [go_sem, Qz, Qc0]; done))
      have Qc1' : w6.cell? ⟨w.heap.size + 1, 1, none⟩ = some (.slice B n' d) := (hb.cell (by simp; omega)).trans (by first | exact Qc1 | (simp [go_sem, Qz, Qc1]; done))
      clear Pc0 Pc1 Qc0 Qc1 Pz Qz
      have Pc0 := Pc0'
      have Pc1 := Pc1'
      have Pz := block_lt_of_cell Pc0
      have Qc0 := Qc0'
      have Qc1 := Qc1'
      have Qz := block_lt_of_cell Qc0
      clear Pc0' Pc1' Qc0' Qc1'
      have W0' := Lib.hid (by first | exact own_below W0.out hb | exact own_below W0.out (over_alloc hb) | exact own_below W0.out (below_undrew hb))
      clear W0
      have W0 := W0'
      clear W0'
      have bel' : Below w.heap.size w w6 := bel.trans ((by first | exact hb | exact over_alloc hb | exact below_undrew hb : Below w5.heap.size w5 w6).mono bel.size)
      clear bel hb
      have bel := bel'
      clear bel'
      have X0 := Lib.hid own
      obtain ⟨A6, n6, c6, rfl, -, -, -⟩ := own
      go_wp2_with fail
      refine (to_lab _ m _ (by first | exact hq.below bel | exact hq.below (bel.alloc bel.size _))).mono ?_
      rintro e w7 ⟨v7, rfl, own, hb⟩
      have X1r : Hid (∀ k, (labRow v7).ownBlock = some k → w6.heap.size + 1 ≤ k ∧ k < w7.heap.size) := fun k hk => by have := own.row k hk; simpa using this
      have sz7 : w6.heap.size + 1 ≤ w7.heap.size := by have := hb.size; simpa using this
      have Pc0' : w7.cell? ⟨w.heap.size, 0, none⟩ = some (.int .i64 l.base) := (hb.cell (by simp; omega)).trans (by first | exact Pc0 | (simp [go_sem, Pz, Pc0]; done))
      have Pc1' : w7.cell? ⟨w.heap.size, 1, none⟩ = some (.slice A n c) := (hb.cell (by simp; omega)).trans (by first | exact Pc1 | (simp [go_sem, Pz, Pc1]; done))
      have Qc0' : w7.cell? ⟨w.heap.size + 1, 0, none⟩ = some (.int .i64 m.base) := (hb.cell (by simp; omega)).trans (by first | exact Qc0 | (simp [go_sem, Qz, Qc0]; done))
      have Qc1' : w7.cell? ⟨w.heap.size + 1, 1, none⟩ = some (.slice B n' d) := (hb.cell (by simp; omega)).trans (by first | exact Qc1 | (simp [go_sem, Qz, Qc1]; done))
      clear Pc0 Pc1 Qc0 Qc1 Pz Qz
      have Pc0 := Pc0'
      have Pc1 := Pc1'
      have Pz := block_lt_of_cell Pc0
      have Qc0 := Qc0'
      have Qc1 := Qc1'
      have Qz := block_lt_of_cell Qc0
      clear Pc0' Pc1' Qc0' Qc1'
      have Cc0 : w7.cell? ⟨w6.heap.size, 0, none⟩ = some (.int .i64 l.base) := (hb.cell (by simp)).trans (World.cell?_alloc_new _ _ _ 0)
      have Cc1 : w7.cell? ⟨w6.heap.size, 1, none⟩ = some (.slice A6 n6 c6) := (hb.cell (by simp)).trans (World.cell?_alloc_new _ _ _ 1)
      have Cz := block_lt_of_cell Cc0
      have X0' := Lib.hid (by first | exact X0.out.below hb | exact X0.out.over hb | exact X0.out.below (below_undrew hb))
      clear X0
      have X0 := X0'
      clear X0'
      have W0' := Lib.hid (by first | exact own_below W0.out hb | exact own_below W0.out (over_alloc hb) | exact own_below W0.out (below_undrew hb))
      clear W0
      have W0 := W0'
      clear W0'
      have bel' : Below w.heap.size w w7 := bel.trans ((by first | exact hb | exact over_alloc hb | exact below_undrew hb : Below w6.heap.size w6 w7).mono bel.size)
      clear bel hb
      have bel := bel'
      clear bel'
      have X1 := Lib.hid own
      obtain ⟨A7, n7, c7, rfl, -, -, -⟩ := own
      go_wp2_with fail
      refine (impl_handlesof _ _ l m _ (by first | exact X0.out.rd | exact X0.out.rd.alloc _) (by first | exact X1.out.rd | exact X1.out.rd.alloc _)).mono ?_
      rintro e w8 ⟨v8, rfl, own, hb⟩
      obtain ⟨A8, c8, rfl, -, -, -⟩ := own_at own
      have G0r : Hid (∀ k, (Value.slice A8 (handlesOf l m).length c8).ownBlock = some k → w7.heap.size + 1 ≤ k ∧ k < w8.heap.size) := fun k hk => by have := own.lt k hk; simpa using this
      have sz8 : w7.heap.size + 1 ≤ w8.heap.size := by have := hb.size; simpa using this
      have Pc0' : w8.cell? ⟨w.heap.size, 0, none⟩ = some (.int .i64 l.base) := (hb.cell (by simp; omega)).trans (by first | exact Pc0 | (simp [go_sem, Pz, Pc0]; done))
      have Pc1' : w8.cell? ⟨w.heap.size, 1, none⟩ = some (.slice A n c) := (hb.cell (by simp; omega)).trans (by first | exact Pc1 | (simp [go_sem, Pz, Pc1]; done))
      have Qc0' : w8.cell? ⟨w.heap.size + 1, 0, none⟩ = some (.int .i64 m.base) := (hb.cell (by simp; omega)).trans (by first | exact Qc0 | (simp [go_sem, Qz, Qc0]; done))
      have Qc1' : w8.cell? ⟨w.heap.size + 1, 1, none⟩ = some (.slice B n' d) := (hb.cell (by simp; omega)).trans (by first | exact Qc1 | (simp [go_sem, Qz, Qc1]; done))
      have Cc0' : w8.cell? ⟨w6.heap.size, 0, none⟩ = some (.int .i64 l.base) := (hb.cell (by simp; omega)).trans (by first | exact Cc0 | (simp [go_sem, Cz, Cc0]; done))
      have Cc1' : w8.cell? ⟨w6.heap.size, 1, none⟩ = some (.slice A6 n6 c6) := (hb.cell (by simp; omega)).trans (by first | exact Cc1 | (simp [go_sem, Cz, Cc1]; done))
      clear Pc0 Pc1 Qc0 Qc1 Cc0 Cc1 Pz Qz Cz
      have Pc0 := Pc0'
      have Pc1 := Pc1'
      have Pz := block_lt_of_cell Pc0
      have Qc0 := Qc0'
      have Qc1 := Qc1'
      have Qz := block_lt_of_cell Qc0
      have Cc0 := Cc0'
      have Cc1 := Cc1'
      have Cz := block_lt_of_cell Cc0
      clear Pc0' Pc1' Qc0' Qc1' Cc0' Cc1'
      have Dc0 : w8.cell? ⟨w7.heap.size, 0, none⟩ = some (.int .i64 m.base) := (hb.cell (by simp)).trans (World.cell?_alloc_new _ _ _ 0)
      have Dc1 : w8.cell? ⟨w7.heap.size, 1, none⟩ = some (.slice A7 n7 c7) := (hb.cell (by simp)).trans (World.cell?_alloc_new _ _ _ 1)
      have Dz := block_lt_of_cell Dc0
      have X0' := Lib.hid (by first | exact X0.out.below hb | exact X0.out.over hb | exact X0.out.below (below_undrew hb))
      clear X0
      have X0 := X0'
      clear X0'
      have X1' := Lib.hid (by first | exact X1.out.below hb | exact X1.out.over hb | exact X1.out.below (below_undrew hb))
      clear X1
      have X1 := X1'
      clear X1'
      have W0' := Lib.hid (by first | exact own_below W0.out hb | exact own_below W0.out (over_alloc hb) | exact own_below W0.out (below_undrew hb))
      clear W0
      have W0 := W0'
      clear W0'
      have bel' : Below w.heap.size w w8 := bel.trans ((by first | exact hb | exact over_alloc hb | exact below_undrew hb : Below w7.heap.size w7 w8).mono bel.size)
      clear bel hb
      have bel := bel'
      clear bel'
      have G0 := Lib.hid own
      clear own
      go_wp2_with fail
      refine (eq_nm A8 A5 _ _ c8 c5 (handlesOf l m) (handlesOf l m) _ (own_read G0.out) (own_read W0.out) rfl rfl (by omega) (by omega)).mono ?_
      rintro e w9 ⟨rfl, hb⟩
      have sz9 : w8.heap.size ≤ w9.heap.size := by have := hb.size; simpa using this
      have Pc0' : w9.cell? ⟨w.heap.size, 0, none⟩ = some (.int .i64 l.base) := (hb.cell (by simp; omega)).trans (by first | exact Pc0 | (simp [go_sem, Pz, Pc0]; done))
      have Pc1' : w9.cell? ⟨w.heap.size, 1, none⟩ = some (.slice A n c) := (hb.cell (by simp; omega)).trans (by first | exact Pc1 | (simp [go_sem, Pz, Pc1]; done))
      have Qc0' : w9.cell? ⟨w.heap.size + 1, 0, none⟩ = some (.int .i64 m.base) := (hb.cell (by simp; omega)).trans (by first | exact Qc0 | (simp [go_sem, Qz, Qc0]; done))
      have Qc1' : w9.cell? ⟨w.heap.size + 1, 1, none⟩ = some (.slice B n' d) := (hb.cell (by simp; omega)).trans (by first | exact Qc1 | (simp [go_sem, Qz, Qc1]; done))
      have Cc0' : w9.cell? ⟨w6.heap.size, 0, none⟩ = some (.int .i64 l.base) := (hb.cell (by simp; omega)).trans (by first | exact Cc0 | (simp [go_sem, Cz, Cc0]; done))
      have Cc1' : w9.cell? ⟨w6.heap.size, 1, none⟩ = some (.slice A6 n6 c6) := (hb.cell (by simp; omega)).trans (by first | exact Cc1 | (simp [go_sem, Cz, Cc1]; done))
      have Dc0' : w9.cell? ⟨w7.heap.size, 0, none⟩ = some (.int .i64 m.base) := (hb.cell (by simp; omega)).trans (by first | exact Dc0 | (simp [go_sem, Dz, Dc0]; done))
      have Dc1' : w9.cell? ⟨w7.heap.size, 1, none⟩ = some (.slice A7 n7 c7) := (hb.cell (by simp; omega)).trans (by first | exact Dc1 | (simp [go_sem, Dz, Dc1]; done))
      clear Pc0 Pc1 Qc0 Qc1 Cc0 Cc1 Dc0 Dc1 Pz Qz Cz Dz
      have Pc0 := Pc0'
      have Pc1 := Pc1'
      have Pz := block_lt_of_cell Pc0
      have Qc0 := Qc0'
      have Qc1 := Qc1'
      have Qz := block_lt_of_cell Qc0
      have Cc0 := Cc0'
      have Cc1 := Cc1'
      have Cz := block_lt_of_cell Cc0
      have Dc0 := Dc0'
      have Dc1 := Dc1'
      have Dz := block_lt_of_cell Dc0
      clear Pc0' Pc1' Qc0' Qc1' Cc0' Cc1' Dc0' Dc1'
      have X0' := Lib.hid (by first | exact X0.out.below hb | exact X0.out.over hb | exact X0.out.below (below_undrew hb))
      clear X0
      have X0 := X0'
      clear X0'
      have X1' := Lib.hid (by first | exact X1.out.below hb | exact X1.out.over hb | exact X1.out.below (below_undrew hb))
      clear X1
      have X1 := X1'
      clear X1'
      have W0' := Lib.hid (by first | exact own_below W0.out hb | exact own_below W0.out (over_alloc hb) | exact own_below W0.out (below_undrew hb))
      clear W0
      have W0 := W0'
      clear W0'
      have G0' := Lib.hid (by first | exact own_below G0.out hb | exact own_below G0.out (over_alloc hb) | exact own_below G0.out (below_undrew hb))
      clear G0
      have G0 := G0'
      clear G0'
      have bel' : Below w.heap.size w w9 := bel.trans ((by first | exact hb | exact over_alloc hb | exact below_undrew hb : Below w8.heap.size w8 w9).mono bel.size)
      clear bel hb
      have bel := bel'
      clear bel'
      have heql := labEq_rfl l
      go_wp2
      go_region_held3 (fun w' => w'.cell? ⟨w.heap.size, 0, none⟩ = some (.int .i64 l.base) ∧ w'.cell? ⟨w.heap.size, 1, none⟩ = some (.slice A n c) ∧ w'.cell? ⟨w.heap.size + 1, 0, none⟩ = some (.int .i64 m.base) ∧ w'.cell? ⟨w.heap.size + 1, 1, none⟩ = some (.slice B n' d) ∧ w'.cell? ⟨w6.heap.size, 0, none⟩ = some (.int .i64 l.base) ∧ w'.cell? ⟨w6.heap.size, 1, none⟩ = some (.slice A6 n6 c6) ∧ w'.cell? ⟨w7.heap.size, 0, none⟩ = some (.int .i64 m.base) ∧ w'.cell? ⟨w7.heap.size, 1, none⟩ = some (.slice A7 n7 c7))
        (first | exact ⟨kb0, kb1, kb2, kb3, kb4, kb5, kb6, kb7⟩ | exact ⟨ka0, ka1, ka2, ka3, ka4, ka5, ka6, ka7⟩ | go_keep)
        (first
        | (go_at_call 11
           refine (to_lab _ l _ (hr.below (by first | exact bel | exact bel.drew))).mono ?_
           rintro e w10 ⟨va, rfl, owna, hba⟩
           have ka0 : w10.cell? ⟨w.heap.size, 0, none⟩ = some (.int .i64 l.base) := (hba.cell (by simp; omega)).trans (by exact Pc0)
           have za0 : w.heap.size < w10.heap.size := block_lt_of_cell ka0
           have ka1 : w10.cell? ⟨w.heap.size, 1, none⟩ = some (.slice A n c) := (hba.cell (by simp; omega)).trans (by exact Pc1)
           have za1 : w.heap.size < w10.heap.size := block_lt_of_cell ka1
           have ka2 : w10.cell? ⟨w.heap.size + 1, 0, none⟩ = some (.int .i64 m.base) := (hba.cell (by simp; omega)).trans (by exact Qc0)
           have za2 : w.heap.size + 1 < w10.heap.size := block_lt_of_cell ka2
           have ka3 : w10.cell? ⟨w.heap.size + 1, 1, none⟩ = some (.slice B n' d) := (hba.cell (by simp; omega)).trans (by exact Qc1)
           have za3 : w.heap.size + 1 < w10.heap.size := block_lt_of_cell ka3
           have ka4 : w10.cell? ⟨w6.heap.size, 0, none⟩ = some (.int .i64 l.base) := (hba.cell (by simp; omega)).trans (by exact Cc0)
           have za4 : w6.heap.size < w10.heap.size := block_lt_of_cell ka4
           have ka5 : w10.cell? ⟨w6.heap.size, 1, none⟩ = some (.slice A6 n6 c6) := (hba.cell (by simp; omega)).trans (by exact Cc1)
           have za5 : w6.heap.size < w10.heap.size := block_lt_of_cell ka5
           have ka6 : w10.cell? ⟨w7.heap.size, 0, none⟩ = some (.int .i64 m.base) := (hba.cell (by simp; omega)).trans (by exact Dc0)
           have za6 : w7.heap.size < w10.heap.size := block_lt_of_cell ka6
           have ka7 : w10.cell? ⟨w7.heap.size, 1, none⟩ = some (.slice A7 n7 c7) := (hba.cell (by simp; omega)).trans (by exact Dc1)
           have za7 : w7.heap.size < w10.heap.size := block_lt_of_cell ka7
           have HBA := Lib.hid hba
           have rda := owna.rd
           have rdx := X0.out.rd.below (by first | exact hba | exact below_undrew hba)
           obtain ⟨Aa, na, ca, rfl, -, -, -⟩ := owna
           clear hba)
        | (go_at_call 13
           refine (eq_lab _ _ l l _ (by exact rdx) (by exact rda)).mono ?_
           rintro e w11 ⟨rfl, hbb⟩
           have kb0 : w11.cell? ⟨w.heap.size, 0, none⟩ = some (.int .i64 l.base) := (hbb.cell (by simp; omega)).trans (by exact ka0)
           have kb1 : w11.cell? ⟨w.heap.size, 1, none⟩ = some (.slice A n c) := (hbb.cell (by simp; omega)).trans (by exact ka1)
           have kb2 : w11.cell? ⟨w.heap.size + 1, 0, none⟩ = some (.int .i64 m.base) := (hbb.cell (by simp; omega)).trans (by exact ka2)
           have kb3 : w11.cell? ⟨w.heap.size + 1, 1, none⟩ = some (.slice B n' d) := (hbb.cell (by simp; omega)).trans (by exact ka3)
           have kb4 : w11.cell? ⟨w6.heap.size, 0, none⟩ = some (.int .i64 l.base) := (hbb.cell (by simp; omega)).trans (by exact ka4)
           have kb5 : w11.cell? ⟨w6.heap.size, 1, none⟩ = some (.slice A6 n6 c6) := (hbb.cell (by simp; omega)).trans (by exact ka5)
           have kb6 : w11.cell? ⟨w7.heap.size, 0, none⟩ = some (.int .i64 m.base) := (hbb.cell (by simp; omega)).trans (by exact ka6)
           have kb7 : w11.cell? ⟨w7.heap.size, 1, none⟩ = some (.slice A7 n7 c7) := (hbb.cell (by simp; omega)).trans (by exact ka7)
           have HBB : Hid (Below w9.heap.size w9 w11) := (by first | exact HBA.out | exact below_undrew HBA.out : Below w9.heap.size w9 w10).trans (hbb.mono (by first | exact HBA.out.size | exact (below_undrew HBA.out).size))
           clear hbb))
      have hb := HBB.out
      clear HBB HBA rda rdx ka0 za0 kb0 ka1 za1 kb1 ka2 za2 kb2 ka3 za3 kb3 ka4 za4 kb4 ka5 za5 kb5 ka6 za6 kb6 ka7 za7 kb7
      have sz11 : w9.heap.size ≤ w11.heap.size := by have := hb.size; simpa using this
      have Pc0' : w11.cell? ⟨w.heap.size, 0, none⟩ = some (.int .i64 l.base) := (hb.cell (by simp; omega)).trans (by first | exact Pc0 | (simp [go_sem, Pz, Pc0]; done))
      have Pc1' : w11.cell? ⟨w.heap.size, 1, none⟩ = some (.slice A n c) := (hb.cell (by simp; omega)).trans (by first | exact Pc1 | (simp [go_sem, Pz, Pc1]; done))
      have Qc0' : w11.cell? ⟨w.heap.size + 1, 0, none⟩ = some (.int .i64 m.base) := (hb.cell (by simp; omega)).trans (by first | exact Qc0 | (simp [go_sem, Qz, Qc0]; done))
      have Qc1' : w11.cell? ⟨w.heap.size + 1, 1, none⟩ = some (.slice B n' d) := (hb.cell (by simp; omega)).trans (by first | exact Qc1 | (simp [go_sem, Qz, Qc1]; done))
      have Cc0' : w11.cell? ⟨w6.heap.size, 0, none⟩ = some (.int .i64 l.base) := (hb.cell (by simp; omega)).trans (by first | exact Cc0 | (simp [go_sem, Cz, Cc0]; done))
      have Cc1' : w11.cell? ⟨w6.heap.size, 1, none⟩ = some (.slice A6 n6 c6) := (hb.cell (by simp; omega)).trans (by first | exact Cc1 | (simp [go_sem, Cz, Cc1]; done))
      have Dc0' : w11.cell? ⟨w7.heap.size, 0, none⟩ = some (.int .i64 m.base) := (hb.cell (by simp; omega)).trans (by first | exact Dc0 | (simp [go_sem, Dz, Dc0]; done))
      have Dc1' : w11.cell? ⟨w7.heap.size, 1, none⟩ = some (.slice A7 n7 c7) := (hb.cell (by simp; omega)).trans (by first | exact Dc1 | (simp [go_sem, Dz, Dc1]; done))
      clear Pc0 Pc1 Qc0 Qc1 Cc0 Cc1 Dc0 Dc1 Pz Qz Cz Dz
      have Pc0 := Pc0'
      have Pc1 := Pc1'
      have Pz := block_lt_of_cell Pc0
      have Qc0 := Qc0'
      have Qc1 := Qc1'
      have Qz := block_lt_of_cell Qc0
      have Cc0 := Cc0'
      have Cc1 := Cc1'
      have Cz := block_lt_of_cell Cc0
      have Dc0 := Dc0'
      have Dc1 := Dc1'
      have Dz := block_lt_of_cell Dc0
      clear Pc0' Pc1' Qc0' Qc1' Cc0' Cc1' Dc0' Dc1'
      have X0' := Lib.hid (by first | exact X0.out.below hb | exact X0.out.over hb | exact X0.out.below (below_undrew hb))
      clear X0
      have X0 := X0'
      clear X0'
      have X1' := Lib.hid (by first | exact X1.out.below hb | exact X1.out.over hb | exact X1.out.below (below_undrew hb))
      clear X1
      have X1 := X1'
      clear X1'
      have W0' := Lib.hid (by first | exact own_below W0.out hb | exact own_below W0.out (over_alloc hb) | exact own_below W0.out (below_undrew hb))
      clear W0
      have W0 := W0'
      clear W0'
      have G0' := Lib.hid (by first | exact own_below G0.out hb | exact own_below G0.out (over_alloc hb) | exact own_below G0.out (below_undrew hb))
      clear G0
      have G0 := G0'
      clear G0'
      have bel' : Below w.heap.size w w11 := bel.trans ((by first | exact hb | exact over_alloc hb | exact below_undrew hb : Below w9.heap.size w9 w11).mono bel.size)
      clear bel hb
      have bel := bel'
      clear bel'
      have heqm := labEq_rfl m
      go_wp2
      go_region_held3 (fun w' => w'.cell? ⟨w.heap.size, 0, none⟩ = some (.int .i64 l.base) ∧ w'.cell? ⟨w.heap.size, 1, none⟩ = some (.slice A n c) ∧ w'.cell? ⟨w.heap.size + 1, 0, none⟩ = some (.int .i64 m.base) ∧ w'.cell? ⟨w.heap.size + 1, 1, none⟩ = some (.slice B n' d) ∧ w'.cell? ⟨w6.heap.size, 0, none⟩ = some (.int .i64 l.base) ∧ w'.cell? ⟨w6.heap.size, 1, none⟩ = some (.slice A6 n6 c6) ∧ w'.cell? ⟨w7.heap.size, 0, none⟩ = some (.int .i64 m.base) ∧ w'.cell? ⟨w7.heap.size, 1, none⟩ = some (.slice A7 n7 c7))
        (first | exact ⟨kb0, kb1, kb2, kb3, kb4, kb5, kb6, kb7⟩ | exact ⟨ka0, ka1, ka2, ka3, ka4, ka5, ka6, ka7⟩ | go_keep)
        (first
        | (go_at_call 11
           refine (to_lab _ m _ (hq.below (by first | exact bel | exact bel.drew))).mono ?_
           rintro e w12 ⟨va, rfl, owna, hba⟩
           have ka0 : w12.cell? ⟨w.heap.size, 0, none⟩ = some (.int .i64 l.base) := (hba.cell (by simp; omega)).trans (by exact Pc0)
           have za0 : w.heap.size < w12.heap.size := block_lt_of_cell ka0
           have ka1 : w12.cell? ⟨w.heap.size, 1, none⟩ = some (.slice A n c) := (hba.cell (by simp; omega)).trans (by exact Pc1)
           have za1 : w.heap.size < w12.heap.size := block_lt_of_cell ka1
           have ka2 : w12.cell? ⟨w.heap.size + 1, 0, none⟩ = some (.int .i64 m.base) := (hba.cell (by simp; omega)).trans (by exact Qc0)
           have za2 : w.heap.size + 1 < w12.heap.size := block_lt_of_cell ka2
           have ka3 : w12.cell? ⟨w.heap.size + 1, 1, none⟩ = some (.slice B n' d) := (hba.cell (by simp; omega)).trans (by exact Qc1)
           have za3 : w.heap.size + 1 < w12.heap.size := block_lt_of_cell ka3
           have ka4 : w12.cell? ⟨w6.heap.size, 0, none⟩ = some (.int .i64 l.base) := (hba.cell (by simp; omega)).trans (by exact Cc0)
           have za4 : w6.heap.size < w12.heap.size := block_lt_of_cell ka4
           have ka5 : w12.cell? ⟨w6.heap.size, 1, none⟩ = some (.slice A6 n6 c6) := (hba.cell (by simp; omega)).trans (by exact Cc1)
           have za5 : w6.heap.size < w12.heap.size := block_lt_of_cell ka5
           have ka6 : w12.cell? ⟨w7.heap.size, 0, none⟩ = some (.int .i64 m.base) := (hba.cell (by simp; omega)).trans (by exact Dc0)
           have za6 : w7.heap.size < w12.heap.size := block_lt_of_cell ka6
           have ka7 : w12.cell? ⟨w7.heap.size, 1, none⟩ = some (.slice A7 n7 c7) := (hba.cell (by simp; omega)).trans (by exact Dc1)
           have za7 : w7.heap.size < w12.heap.size := block_lt_of_cell ka7
           have HBA := Lib.hid hba
           have rda := owna.rd
           have rdx := X1.out.rd.below (by first | exact hba | exact below_undrew hba)
           obtain ⟨Aa, na, ca, rfl, -, -, -⟩ := owna
           clear hba)
        | (go_at_call 13
           refine (eq_lab _ _ m m _ (by exact rdx) (by exact rda)).mono ?_
           rintro e w13 ⟨rfl, hbb⟩
           have kb0 : w13.cell? ⟨w.heap.size, 0, none⟩ = some (.int .i64 l.base) := (hbb.cell (by simp; omega)).trans (by exact ka0)
           have kb1 : w13.cell? ⟨w.heap.size, 1, none⟩ = some (.slice A n c) := (hbb.cell (by simp; omega)).trans (by exact ka1)
           have kb2 : w13.cell? ⟨w.heap.size + 1, 0, none⟩ = some (.int .i64 m.base) := (hbb.cell (by simp; omega)).trans (by exact ka2)
           have kb3 : w13.cell? ⟨w.heap.size + 1, 1, none⟩ = some (.slice B n' d) := (hbb.cell (by simp; omega)).trans (by exact ka3)
           have kb4 : w13.cell? ⟨w6.heap.size, 0, none⟩ = some (.int .i64 l.base) := (hbb.cell (by simp; omega)).trans (by exact ka4)
           have kb5 : w13.cell? ⟨w6.heap.size, 1, none⟩ = some (.slice A6 n6 c6) := (hbb.cell (by simp; omega)).trans (by exact ka5)
           have kb6 : w13.cell? ⟨w7.heap.size, 0, none⟩ = some (.int .i64 m.base) := (hbb.cell (by simp; omega)).trans (by exact ka6)
           have kb7 : w13.cell? ⟨w7.heap.size, 1, none⟩ = some (.slice A7 n7 c7) := (hbb.cell (by simp; omega)).trans (by exact ka7)
           have HBB : Hid (Below w11.heap.size w11 w13) := (by first | exact HBA.out | exact below_undrew HBA.out : Below w11.heap.size w11 w12).trans (hbb.mono (by first | exact HBA.out.size | exact (below_undrew HBA.out).size))
           clear hbb))
      have hb := HBB.out
      clear HBB HBA rda rdx ka0 za0 kb0 ka1 za1 kb1 ka2 za2 kb2 ka3 za3 kb3 ka4 za4 kb4 ka5 za5 kb5 ka6 za6 kb6 ka7 za7 kb7
      have sz13 : w11.heap.size ≤ w13.heap.size := by have := hb.size; simpa using this
      have Pc0' : w13.cell? ⟨w.heap.size, 0, none⟩ = some (.int .i64 l.base) := (hb.cell (by simp; omega)).trans (by first | exact Pc0 | (simp [go_sem, Pz, Pc0]; done))
      have Pc1' : w13.cell? ⟨w.heap.size, 1, none⟩ = some (.slice A n c) := (hb.cell (by simp; omega)).trans (by first | exact Pc1 | (simp [go_sem, Pz, Pc1]; done))
      have Qc0' : w13.cell? ⟨w.heap.size + 1, 0, none⟩ = some (.int .i64 m.base) := (hb.cell (by simp; omega)).trans (by first | exact Qc0 | (simp [go_sem, Qz, Qc0]; done))
      have Qc1' : w13.cell? ⟨w.heap.size + 1, 1, none⟩ = some (.slice B n' d) := (hb.cell (by simp; omega)).trans (by first | exact Qc1 | (simp [go_sem, Qz, Qc1]; done))
      have Cc0' : w13.cell? ⟨w6.heap.size, 0, none⟩ = some (.int .i64 l.base) := (hb.cell (by simp; omega)).trans (by first | exact Cc0 | (simp [go_sem, Cz, Cc0]; done))
      have Cc1' : w13.cell? ⟨w6.heap.size, 1, none⟩ = some (.slice A6 n6 c6) := (hb.cell (by simp; omega)).trans (by first | exact Cc1 | (simp [go_sem, Cz, Cc1]; done))
      have Dc0' : w13.cell? ⟨w7.heap.size, 0, none⟩ = some (.int .i64 m.base) := (hb.cell (by simp; omega)).trans (by first | exact Dc0 | (simp [go_sem, Dz, Dc0]; done))
      have Dc1' : w13.cell? ⟨w7.heap.size, 1, none⟩ = some (.slice A7 n7 c7) := (hb.cell (by simp; omega)).trans (by first | exact Dc1 | (simp [go_sem, Dz, Dc1]; done))
      clear Pc0 Pc1 Qc0 Qc1 Cc0 Cc1 Dc0 Dc1 Pz Qz Cz Dz
      have Pc0 := Pc0'
      have Pc1 := Pc1'
      have Pz := block_lt_of_cell Pc0
      have Qc0 := Qc0'
      have Qc1 := Qc1'
      have Qz := block_lt_of_cell Qc0
      have Cc0 := Cc0'
      have Cc1 := Cc1'
      have Cz := block_lt_of_cell Cc0
      have Dc0 := Dc0'
      have Dc1 := Dc1'
      have Dz := block_lt_of_cell Dc0
      clear Pc0' Pc1' Qc0' Qc1' Cc0' Cc1' Dc0' Dc1'
      have X0' := Lib.hid (by first | exact X0.out.below hb | exact X0.out.over hb | exact X0.out.below (below_undrew hb))
      clear X0
      have X0 := X0'
      clear X0'
      have X1' := Lib.hid (by first | exact X1.out.below hb | exact X1.out.over hb | exact X1.out.below (below_undrew hb))
      clear X1
      have X1 := X1'
      clear X1'
      have W0' := Lib.hid (by first | exact own_below W0.out hb | exact own_below W0.out (over_alloc hb) | exact own_below W0.out (below_undrew hb))
      clear W0
      have W0 := W0'
      clear W0'
      have G0' := Lib.hid (by first | exact own_below G0.out hb | exact own_below G0.out (over_alloc hb) | exact own_below G0.out (below_undrew hb))
      clear G0
      have G0 := G0'
      clear G0'
      have bel' : Below w.heap.size w w13 := bel.trans ((by first | exact hb | exact over_alloc hb | exact below_undrew hb : Below w11.heap.size w11 w13).mono bel.size)
      clear bel hb
      have bel := bel'
      clear bel'
      go_wp2_with fail
      refine (mark_lab _ l _ _ _ (by omega) (by omega) X0.out).mono ?_
      rintro e w14 ⟨rfl, own, hg⟩
      have sz14 : w13.heap.size ≤ w14.heap.size := hg.size
      have Pc0' : w14.cell? ⟨w.heap.size, 0, none⟩ = some (.int .i64 l.base) := hg.cell Pc0 (fun e => by have := X0r.out (w.heap.size) e.symm; omega)
      have Pc1' : w14.cell? ⟨w.heap.size, 1, none⟩ = some (.slice A n c) := hg.cell Pc1 (fun e => by have := X0r.out (w.heap.size) e.symm; omega)
      have Qc0' : w14.cell? ⟨w.heap.size + 1, 0, none⟩ = some (.int .i64 m.base) := hg.cell Qc0 (fun e => by have := X0r.out (w.heap.size + 1) e.symm; omega)
      have Qc1' : w14.cell? ⟨w.heap.size + 1, 1, none⟩ = some (.slice B n' d) := hg.cell Qc1 (fun e => by have := X0r.out (w.heap.size + 1) e.symm; omega)
      have Cc0' : w14.cell? ⟨w6.heap.size, 0, none⟩ = some (.int .i64 l.base) := hg.cell Cc0 (fun e => by have := X0r.out (w6.heap.size) e.symm; omega)
      have Cc1' : w14.cell? ⟨w6.heap.size, 1, none⟩ = some (.slice A6 n6 c6) := hg.cell Cc1 (fun e => by have := X0r.out (w6.heap.size) e.symm; omega)
      have Dc0' : w14.cell? ⟨w7.heap.size, 0, none⟩ = some (.int .i64 m.base) := hg.cell Dc0 (fun e => by have := X0r.out (w7.heap.size) e.symm; omega)
      have Dc1' : w14.cell? ⟨w7.heap.size, 1, none⟩ = some (.slice A7 n7 c7) := hg.cell Dc1 (fun e => by have := X0r.out (w7.heap.size) e.symm; omega)
      clear Pc0 Pc1 Qc0 Qc1 Cc0 Cc1 Dc0 Dc1 Pz Qz Cz Dz
      have Pc0 := Pc0'
      have Pc1 := Pc1'
      have Pz := block_lt_of_cell Pc0
      have Qc0 := Qc0'
      have Qc1 := Qc1'
      have Qz := block_lt_of_cell Qc0
      have Cc0 := Cc0'
      have Cc1 := Cc1'
      have Cz := block_lt_of_cell Cc0
      have Dc0 := Dc0'
      have Dc1 := Dc1'
      have Dz := block_lt_of_cell Dc0
      clear Pc0' Pc1' Qc0' Qc1' Cc0' Cc1' Dc0' Dc1'
      have X1' := Lib.hid (X1.out.keptBy hg (fun k hk e => by have := X0r.out _ e; have := X1r.out _ hk; omega))
      clear X1
      have X1 := X1'
      clear X1'
      have W0' := Lib.hid (W0.out.kept hg (by cases hk : (Value.slice A5 (handlesOf l m).length c5).ownBlock with
        | none => exact .inl rfl
        | some k => exact .inr (fun e => by have := X0r.out k e.symm; have := W0r.out k hk; omega)))
      clear W0
      have W0 := W0'
      clear W0'
      have G0' := Lib.hid (G0.out.kept hg (by cases hk : (Value.slice A8 (handlesOf l m).length c8).ownBlock with
        | none => exact .inl rfl
        | some k => exact .inr (fun e => by have := X0r.out k e.symm; have := G0r.out k hk; omega)))
      clear G0
      have G0 := G0'
      clear G0'
      clear X0
      have X0 := Lib.hid own
      have bel' : Below w.heap.size w w14 := bel.grown hg bel.size (fun k hk => by have := X0r.out _ hk; omega)
      clear bel hg own
      have bel := bel'
      clear bel'
      go_wp2_with fail
      refine (mark_lab _ m _ _ _ (by omega) (by omega) X1.out).mono ?_
      rintro e w15 ⟨rfl, own, hg⟩
      have sz15 : w14.heap.size ≤ w15.heap.size := hg.size
      have Pc0' : w15.cell? ⟨w.heap.size, 0, none⟩ = some (.int .i64 l.base) := hg.cell Pc0 (fun e => by have := X1r.out (w.heap.size) e.symm; omega)
      have Pc1' : w15.cell? ⟨w.heap.size, 1, none⟩ = some (.slice A n c) := hg.cell Pc1 (fun e => by have := X1r.out (w.heap.size) e.symm; omega)
      have Qc0' : w15.cell? ⟨w.heap.size + 1, 0, none⟩ = some (.int .i64 m.base) := hg.cell Qc0 (fun e => by have := X1r.out (w.heap.size + 1) e.symm; omega)
      have Qc1' : w15.cell? ⟨w.heap.size + 1, 1, none⟩ = some (.slice B n' d) := hg.cell Qc1 (fun e => by have := X1r.out (w.heap.size + 1) e.symm; omega)
      have Cc0' : w15.cell? ⟨w6.heap.size, 0, none⟩ = some (.int .i64 l.base) := hg.cell Cc0 (fun e => by have := X1r.out (w6.heap.size) e.symm; omega)
      have Cc1' : w15.cell? ⟨w6.heap.size, 1, none⟩ = some (.slice A6 n6 c6) := hg.cell Cc1 (fun e => by have := X1r.out (w6.heap.size) e.symm; omega)
      have Dc0' : w15.cell? ⟨w7.heap.size, 0, none⟩ = some (.int .i64 m.base) := hg.cell Dc0 (fun e => by have := X1r.out (w7.heap.size) e.symm; omega)
      have Dc1' : w15.cell? ⟨w7.heap.size, 1, none⟩ = some (.slice A7 n7 c7) := hg.cell Dc1 (fun e => by have := X1r.out (w7.heap.size) e.symm; omega)
      clear Pc0 Pc1 Qc0 Qc1 Cc0 Cc1 Dc0 Dc1 Pz Qz Cz Dz
      have Pc0 := Pc0'
      have Pc1 := Pc1'
      have Pz := block_lt_of_cell Pc0
      have Qc0 := Qc0'
      have Qc1 := Qc1'
      have Qz := block_lt_of_cell Qc0
      have Cc0 := Cc0'
      have Cc1 := Cc1'
      have Cz := block_lt_of_cell Cc0
      have Dc0 := Dc0'
      have Dc1 := Dc1'
      have Dz := block_lt_of_cell Dc0
      clear Pc0' Pc1' Qc0' Qc1' Cc0' Cc1' Dc0' Dc1'
      have X0' := Lib.hid (X0.out.keptBy hg (fun k hk e => by have := X1r.out _ e; have := X0r.out _ hk; omega))
      clear X0
      have X0 := X0'
      clear X0'
      have W0' := Lib.hid (W0.out.kept hg (by cases hk : (Value.slice A5 (handlesOf l m).length c5).ownBlock with
        | none => exact .inl rfl
        | some k => exact .inr (fun e => by have := X1r.out k e.symm; have := W0r.out k hk; omega)))
      clear W0
      have W0 := W0'
      clear W0'
      have G0' := Lib.hid (G0.out.kept hg (by cases hk : (Value.slice A8 (handlesOf l m).length c8).ownBlock with
        | none => exact .inl rfl
        | some k => exact .inr (fun e => by have := X1r.out k e.symm; have := G0r.out k hk; omega)))
      clear G0
      have G0 := G0'
      clear G0'
      clear X1
      have X1 := Lib.hid own
      have bel' : Below w.heap.size w w15 := bel.grown hg bel.size (fun k hk => by have := X1r.out _ hk; omega)
      clear bel hg own
      have bel := bel'
      clear bel'
      clear X0 X0r
      clear X1 X1r
      have hk1 : ¬ (1 : Int) + 2 * (l.parts.length : Int) + 2 * (m.parts.length : Int) < 0 := by omega
      go_wp2_with fail
      refine (eq_nm A8 A5 _ _ c8 c5 (handlesOf l m) (handlesOf l m) _ (own_read G0.out) (own_read W0.out) rfl rfl (by omega) (by omega)).mono ?_
      rintro e w16 ⟨rfl, hb⟩
      have sz16 : w15.heap.size ≤ w16.heap.size := by have := hb.size; simpa using this
      have Pc0' : w16.cell? ⟨w.heap.size, 0, none⟩ = some (.int .i64 l.base) := (hb.cell (by simp; omega)).trans (by first | exact Pc0 | (simp [go_sem, Pz, Pc0]; done))
      have Pc1' : w16.cell? ⟨w.heap.size, 1, none⟩ = some (.slice A n c) := (hb.cell (by simp; omega)).trans (by first | exact Pc1 | (simp [go_sem, Pz, Pc1]; done))
      have Qc0' : w16.cell? ⟨w.heap.size + 1, 0, none⟩ = some (.int .i64 m.base) := (hb.cell (by simp; omega)).trans (by first | exact Qc0 | (simp [go_sem, Qz, Qc0]; done))
      have Qc1' : w16.cell? ⟨w.heap.size + 1, 1, none⟩ = some (.slice B n' d) := (hb.cell (by simp; omega)).trans (by first | exact Qc1 | (simp [go_sem, Qz, Qc1]; done))
      have Cc0' : w16.cell? ⟨w6.heap.size, 0, none⟩ = some (.int .i64 l.base) := (hb.cell (by simp; omega)).trans (by first | exact Cc0 | (simp [go_sem, Cz, Cc0]; done))
      have Cc1' : w16.cell? ⟨w6.heap.size, 1, none⟩ = some (.slice A6 n6 c6) := (hb.cell (by simp; omega)).trans (by first | exact Cc1 | (simp [go_sem, Cz, Cc1]; done))
      have Dc0' : w16.cell? ⟨w7.heap.size, 0, none⟩ = some (.int .i64 m.base) := (hb.cell (by simp; omega)).trans (by first | exact Dc0 | (simp [go_sem, Dz, Dc0]; done))
      have Dc1' : w16.cell? ⟨w7.heap.size, 1, none⟩ = some (.slice A7 n7 c7) := (hb.cell (by simp; omega)).trans (by first | exact Dc1 | (simp [go_sem, Dz, Dc1]; done))
      clear Pc0 Pc1 Qc0 Qc1 Cc0 Cc1 Dc0 Dc1 Pz Qz Cz Dz
      have Pc0 := Pc0'
      have Pc1 := Pc1'
      have Pz := block_lt_of_cell Pc0
      have Qc0 := Qc0'
      have Qc1 := Qc1'
      have Qz := block_lt_of_cell Qc0
      have Cc0 := Cc0'
      have Cc1 := Cc1'
      have Cz := block_lt_of_cell Cc0
      have Dc0 := Dc0'
      have Dc1 := Dc1'
      have Dz := block_lt_of_cell Dc0
      clear Pc0' Pc1' Qc0' Qc1' Cc0' Cc1' Dc0' Dc1'
      have W0' := Lib.hid (by first | exact own_below W0.out hb | exact own_below W0.out (over_alloc hb) | exact own_below W0.out (below_undrew hb))
      clear W0
      have W0 := W0'
      clear W0'
      have G0' := Lib.hid (by first | exact own_below G0.out hb | exact own_below G0.out (over_alloc hb) | exact own_below G0.out (below_undrew hb))
      clear G0
      have G0 := G0'
      clear G0'
      have bel' : Below w.heap.size w w16 := bel.trans ((by first | exact hb | exact over_alloc hb | exact below_undrew hb : Below w15.heap.size w15 w16).mono bel.size)
      clear bel hb
      have bel := bel'
      clear bel'
      go_wp2_with fail
      refine (mark_nm A8 _ c8 _ _ _ _ (by omega) (by omega) (by omega) G0.out).mono ?_
      rintro e w17 ⟨rfl, own, hg⟩
      have sz17 : w16.heap.size ≤ w17.heap.size := hg.size
      have Pc0' : w17.cell? ⟨w.heap.size, 0, none⟩ = some (.int .i64 l.base) := hg.cell Pc0 (fun e => by have := G0r.out (w.heap.size) e.symm; omega)
      have Pc1' : w17.cell? ⟨w.heap.size, 1, none⟩ = some (.slice A n c) := hg.cell Pc1 (fun e => by have := G0r.out (w.heap.size) e.symm; omega)
      have Qc0' : w17.cell? ⟨w.heap.size + 1, 0, none⟩ = some (.int .i64 m.base) := hg.cell Qc0 (fun e => by have := G0r.out (w.heap.size + 1) e.symm; omega)
      have Qc1' : w17.cell? ⟨w.heap.size + 1, 1, none⟩ = some (.slice B n' d) := hg.cell Qc1 (fun e => by have := G0r.out (w.heap.size + 1) e.symm; omega)
      have Cc0' : w17.cell? ⟨w6.heap.size, 0, none⟩ = some (.int .i64 l.base) := hg.cell Cc0 (fun e => by have := G0r.out (w6.heap.size) e.symm; omega)
      have Cc1' : w17.cell? ⟨w6.heap.size, 1, none⟩ = some (.slice A6 n6 c6) := hg.cell Cc1 (fun e => by have := G0r.out (w6.heap.size) e.symm; omega)
      have Dc0' : w17.cell? ⟨w7.heap.size, 0, none⟩ = some (.int .i64 m.base) := hg.cell Dc0 (fun e => by have := G0r.out (w7.heap.size) e.symm; omega)
      have Dc1' : w17.cell? ⟨w7.heap.size, 1, none⟩ = some (.slice A7 n7 c7) := hg.cell Dc1 (fun e => by have := G0r.out (w7.heap.size) e.symm; omega)
      clear Pc0 Pc1 Qc0 Qc1 Cc0 Cc1 Dc0 Dc1 Pz Qz Cz Dz
      have Pc0 := Pc0'
      have Pc1 := Pc1'
      have Pz := block_lt_of_cell Pc0
      have Qc0 := Qc0'
      have Qc1 := Qc1'
      have Qz := block_lt_of_cell Qc0
      have Cc0 := Cc0'
      have Cc1 := Cc1'
      have Cz := block_lt_of_cell Cc0
      have Dc0 := Dc0'
      have Dc1 := Dc1'
      have Dz := block_lt_of_cell Dc0
      clear Pc0' Pc1' Qc0' Qc1' Cc0' Cc1' Dc0' Dc1'
      have W0' := Lib.hid (W0.out.kept hg (by cases hk : (Value.slice A5 (handlesOf l m).length c5).ownBlock with
        | none => exact .inl rfl
        | some k => exact .inr (fun e => by have := G0r.out k e.symm; have := W0r.out k hk; omega)))
      clear W0
      have W0 := W0'
      clear W0'
      clear G0
      have G0 := Lib.hid own
      have bel' : Below w.heap.size w w17 := bel.grown hg bel.size (fun k hk => by have := G0r.out _ hk; omega)
      clear bel hg own
      have bel := bel'
      clear bel'
      have hk2 : ¬ (1 : Int) + ((handlesOf l m).length : Int) < 0 := by omega
      go_wp2_with fail
      refine (held_nm A8 _ c8 1 _ (by omega) (by omega) (by omega) (own_read G0.out)).mono ?_
      rintro e w18 ⟨rfl, hb⟩
      have sz18 : w17.heap.size ≤ w18.heap.size := by have := hb.size; simpa using this
      have Pc0' : w18.cell? ⟨w.heap.size, 0, none⟩ = some (.int .i64 l.base) := (hb.cell (by simp; omega)).trans (by first | exact Pc0 | (simp [go_sem, Pz, Pc0]; done))
      have Pc1' : w18.cell? ⟨w.heap.size, 1, none⟩ = some (.slice A n c) := (hb.cell (by simp; omega)).trans (by first | exact Pc1 | (simp [go_sem, Pz, Pc1]; done))
      have Qc0' : w18.cell? ⟨w.heap.size + 1, 0, none⟩ = some (.int .i64 m.base) := (hb.cell (by simp; omega)).trans (by first | exact Qc0 | (simp [go_sem, Qz, Qc0]; done))
      have Qc1' : w18.cell? ⟨w.heap.size + 1, 1, none⟩ = some (.slice B n' d) := (hb.cell (by simp; omega)).trans (by first | exact Qc1 | (simp [go_sem, Qz, Qc1]; done))
      have Cc0' : w18.cell? ⟨w6.heap.size, 0, none⟩ = some (.int .i64 l.base) := (hb.cell (by simp; omega)).trans (by first | exact Cc0 | (simp [go_sem, Cz, Cc0]; done))
      have Cc1' : w18.cell? ⟨w6.heap.size, 1, none⟩ = some (.slice A6 n6 c6) := (hb.cell (by simp; omega)).trans (by first | exact Cc1 | (simp [go_sem, Cz, Cc1]; done))
      have Dc0' : w18.cell? ⟨w7.heap.size, 0, none⟩ = some (.int .i64 m.base) := (hb.cell (by simp; omega)).trans (by first | exact Dc0 | (simp [go_sem, Dz, Dc0]; done))
      have Dc1' : w18.cell? ⟨w7.heap.size, 1, none⟩ = some (.slice A7 n7 c7) := (hb.cell (by simp; omega)).trans (by first | exact Dc1 | (simp [go_sem, Dz, Dc1]; done))
      clear Pc0 Pc1 Qc0 Qc1 Cc0 Cc1 Dc0 Dc1 Pz Qz Cz Dz
      have Pc0 := Pc0'
      have Pc1 := Pc1'
      have Pz := block_lt_of_cell Pc0
      have Qc0 := Qc0'
      have Qc1 := Qc1'
      have Qz := block_lt_of_cell Qc0
      have Cc0 := Cc0'
      have Cc1 := Cc1'
      have Cz := block_lt_of_cell Cc0
      have Dc0 := Dc0'
      have Dc1 := Dc1'
      have Dz := block_lt_of_cell Dc0
      clear Pc0' Pc1' Qc0' Qc1' Cc0' Cc1' Dc0' Dc1'
      have W0' := Lib.hid (by first | exact own_below W0.out hb | exact own_below W0.out (over_alloc hb) | exact own_below W0.out (below_undrew hb))
      clear W0
      have W0 := W0'
      clear W0'
      have G0' := Lib.hid (by first | exact own_below G0.out hb | exact own_below G0.out (over_alloc hb) | exact own_below G0.out (below_undrew hb))
      clear G0
      have G0 := G0'
      clear G0'
      have bel' : Below w.heap.size w w18 := bel.trans ((by first | exact hb | exact over_alloc hb | exact below_undrew hb : Below w17.heap.size w17 w18).mono bel.size)
      clear bel hb
      have bel := bel'
      clear bel'
      go_wp2
      go_region_held3 (fun w' => w'.cell? ⟨w.heap.size, 0, none⟩ = some (.int .i64 l.base) ∧ w'.cell? ⟨w.heap.size, 1, none⟩ = some (.slice A n c) ∧ w'.cell? ⟨w.heap.size + 1, 0, none⟩ = some (.int .i64 m.base) ∧ w'.cell? ⟨w.heap.size + 1, 1, none⟩ = some (.slice B n' d) ∧ w'.cell? ⟨w6.heap.size, 0, none⟩ = some (.int .i64 l.base) ∧ w'.cell? ⟨w6.heap.size, 1, none⟩ = some (.slice A6 n6 c6) ∧ w'.cell? ⟨w7.heap.size, 0, none⟩ = some (.int .i64 m.base) ∧ w'.cell? ⟨w7.heap.size, 1, none⟩ = some (.slice A7 n7 c7))
        (first | exact ⟨kd0, kd1, kd2, kd3, kd4, kd5, kd6, kd7⟩ | exact ⟨kb0, kb1, kb2, kb3, kb4, kb5, kb6, kb7⟩ | exact ⟨ka0, ka1, ka2, ka3, ka4, ka5, ka6, ka7⟩ | go_keep)
        (first
        | (go_at_call_of 11 (Value.agg #[Value.int IntKind.i64 l.base, Value.slice A n c])
           refine (to_lab _ l _ (hr.below (by first | exact bel | exact bel.drew))).mono ?_
           rintro e w19 ⟨va, rfl, owna, hba⟩
           have ka0 : w19.cell? ⟨w.heap.size, 0, none⟩ = some (.int .i64 l.base) := (hba.cell (by simp; omega)).trans (by exact Pc0)
           have za0 : w.heap.size < w19.heap.size := block_lt_of_cell ka0
           have ka1 : w19.cell? ⟨w.heap.size, 1, none⟩ = some (.slice A n c) := (hba.cell (by simp; omega)).trans (by exact Pc1)
           have za1 : w.heap.size < w19.heap.size := block_lt_of_cell ka1
           have ka2 : w19.cell? ⟨w.heap.size + 1, 0, none⟩ = some (.int .i64 m.base) := (hba.cell (by simp; omega)).trans (by exact Qc0)
           have za2 : w.heap.size + 1 < w19.heap.size := block_lt_of_cell ka2
           have ka3 : w19.cell? ⟨w.heap.size + 1, 1, none⟩ = some (.slice B n' d) := (hba.cell (by simp; omega)).trans (by exact Qc1)
           have za3 : w.heap.size + 1 < w19.heap.size := block_lt_of_cell ka3
           have ka4 : w19.cell? ⟨w6.heap.size, 0, none⟩ = some (.int .i64 l.base) := (hba.cell (by simp; omega)).trans (by exact Cc0)
           have za4 : w6.heap.size < w19.heap.size := block_lt_of_cell ka4
           have ka5 : w19.cell? ⟨w6.heap.size, 1, none⟩ = some (.slice A6 n6 c6) := (hba.cell (by simp; omega)).trans (by exact Cc1)
           have za5 : w6.heap.size < w19.heap.size := block_lt_of_cell ka5
           have ka6 : w19.cell? ⟨w7.heap.size, 0, none⟩ = some (.int .i64 m.base) := (hba.cell (by simp; omega)).trans (by exact Dc0)
           have za6 : w7.heap.size < w19.heap.size := block_lt_of_cell ka6
           have ka7 : w19.cell? ⟨w7.heap.size, 1, none⟩ = some (.slice A7 n7 c7) := (hba.cell (by simp; omega)).trans (by exact Dc1)
           have za7 : w7.heap.size < w19.heap.size := block_lt_of_cell ka7
           have HBA : Hid (Below w18.heap.size w18 w19) := (by first | exact hba | exact below_undrew hba)
           have bela : Below w.heap.size w w19 := bel.trans (HBA.out.mono bel.size)
           have RA := Lib.hid owna.rd
           obtain ⟨Aa, na, ca, rfl, -, -, -⟩ := owna
           clear hba)
        | (go_at_call_of 11 (Value.agg #[Value.int IntKind.i64 m.base, Value.slice B n' d])
           refine (to_lab _ m _ (hq.below (by exact bela))).mono ?_
           rintro e w20 ⟨vb, rfl, ownb, hbb⟩
           have kb0 : w20.cell? ⟨w.heap.size, 0, none⟩ = some (.int .i64 l.base) := (hbb.cell (by simp; omega)).trans (by exact ka0)
           have zb0 : w.heap.size < w20.heap.size := block_lt_of_cell kb0
           have kb1 : w20.cell? ⟨w.heap.size, 1, none⟩ = some (.slice A n c) := (hbb.cell (by simp; omega)).trans (by exact ka1)
           have zb1 : w.heap.size < w20.heap.size := block_lt_of_cell kb1
           have kb2 : w20.cell? ⟨w.heap.size + 1, 0, none⟩ = some (.int .i64 m.base) := (hbb.cell (by simp; omega)).trans (by exact ka2)
           have zb2 : w.heap.size + 1 < w20.heap.size := block_lt_of_cell kb2
           have kb3 : w20.cell? ⟨w.heap.size + 1, 1, none⟩ = some (.slice B n' d) := (hbb.cell (by simp; omega)).trans (by exact ka3)
           have zb3 : w.heap.size + 1 < w20.heap.size := block_lt_of_cell kb3
           have kb4 : w20.cell? ⟨w6.heap.size, 0, none⟩ = some (.int .i64 l.base) := (hbb.cell (by simp; omega)).trans (by exact ka4)
           have zb4 : w6.heap.size < w20.heap.size := block_lt_of_cell kb4
           have kb5 : w20.cell? ⟨w6.heap.size, 1, none⟩ = some (.slice A6 n6 c6) := (hbb.cell (by simp; omega)).trans (by exact ka5)
           have zb5 : w6.heap.size < w20.heap.size := block_lt_of_cell kb5
           have kb6 : w20.cell? ⟨w7.heap.size, 0, none⟩ = some (.int .i64 m.base) := (hbb.cell (by simp; omega)).trans (by exact ka6)
           have zb6 : w7.heap.size < w20.heap.size := block_lt_of_cell kb6
           have kb7 : w20.cell? ⟨w7.heap.size, 1, none⟩ = some (.slice A7 n7 c7) := (hbb.cell (by simp; omega)).trans (by exact ka7)
           have zb7 : w7.heap.size < w20.heap.size := block_lt_of_cell kb7
           have HBB : Hid (Below w18.heap.size w18 w20) := HBA.out.trans (hbb.mono HBA.out.size)
           have RA' := Lib.hid (RA.out.below hbb)
           have RB := Lib.hid ownb.rd
           obtain ⟨Ab, nb, cb, rfl, -, -, -⟩ := ownb
           clear hbb RA)
        | (go_at_call 23
           refine (impl_handlesof _ _ l m _ RA'.out RB.out).mono ?_
           rintro e w21 ⟨v21, rfl, own, hbd⟩
           obtain ⟨A21, c21, rfl, -, -, -⟩ := own_at own
           have kd0 : w21.cell? ⟨w.heap.size, 0, none⟩ = some (.int .i64 l.base) := (hbd.cell (by simp; omega)).trans (by exact kb0)
           have zd0 : w.heap.size < w21.heap.size := block_lt_of_cell kd0
           have kd1 : w21.cell? ⟨w.heap.size, 1, none⟩ = some (.slice A n c) := (hbd.cell (by simp; omega)).trans (by exact kb1)
           have zd1 : w.heap.size < w21.heap.size := block_lt_of_cell kd1
           have kd2 : w21.cell? ⟨w.heap.size + 1, 0, none⟩ = some (.int .i64 m.base) := (hbd.cell (by simp; omega)).trans (by exact kb2)
           have zd2 : w.heap.size + 1 < w21.heap.size := block_lt_of_cell kd2
           have kd3 : w21.cell? ⟨w.heap.size + 1, 1, none⟩ = some (.slice B n' d) := (hbd.cell (by simp; omega)).trans (by exact kb3)
           have zd3 : w.heap.size + 1 < w21.heap.size := block_lt_of_cell kd3
           have kd4 : w21.cell? ⟨w6.heap.size, 0, none⟩ = some (.int .i64 l.base) := (hbd.cell (by simp; omega)).trans (by exact kb4)
           have zd4 : w6.heap.size < w21.heap.size := block_lt_of_cell kd4
           have kd5 : w21.cell? ⟨w6.heap.size, 1, none⟩ = some (.slice A6 n6 c6) := (hbd.cell (by simp; omega)).trans (by exact kb5)
           have zd5 : w6.heap.size < w21.heap.size := block_lt_of_cell kd5
           have kd6 : w21.cell? ⟨w7.heap.size, 0, none⟩ = some (.int .i64 m.base) := (hbd.cell (by simp; omega)).trans (by exact kb6)
           have zd6 : w7.heap.size < w21.heap.size := block_lt_of_cell kd6
           have kd7 : w21.cell? ⟨w7.heap.size, 1, none⟩ = some (.slice A7 n7 c7) := (hbd.cell (by simp; omega)).trans (by exact kb7)
           have zd7 : w7.heap.size < w21.heap.size := block_lt_of_cell kd7
           have HBD : Hid (Below w18.heap.size w18 w21) := HBB.out.trans (hbd.mono HBB.out.size)
           have H0r : Hid (∀ k, (Value.slice A21 (handlesOf l m).length c21).ownBlock = some k → w18.heap.size ≤ k ∧ k < w21.heap.size) := fun k hk => by have := own.lt k hk; have := HBB.out.size; omega
           have OW := Lib.hid own
           clear hbd own))
      have hb := HBD.out
      have own := OW.out
      clear HBD HBB HBA RA' RB OW bela ka0 za0 ka1 za1 ka2 za2 ka3 za3 ka4 za4 ka5 za5 ka6 za6 ka7 za7 kb0 zb0 kb1 zb1 kb2 zb2 kb3 zb3 kb4 zb4 kb5 zb5 kb6 zb6 kb7 zb7 kd0 zd0 kd1 zd1 kd2 zd2 kd3 zd3 kd4 zd4 kd5 zd5 kd6 zd6 kd7 zd7
      have sz21 : w18.heap.size ≤ w21.heap.size := by have := hb.size; simpa using this
      have Pc0' : w21.cell? ⟨w.heap.size, 0, none⟩ = some (.int .i64 l.base) := (hb.cell (by simp; omega)).trans (by first | exact Pc0 | (simp [go_sem, Pz, Pc0]; done))
      have Pc1' : w21.cell? ⟨w.heap.size, 1, none⟩ = some (.slice A n c) := (hb.cell (by simp; omega)).trans (by first | exact Pc1 | (simp [go_sem, Pz, Pc1]; done))
      have Qc0' : w21.cell? ⟨w.heap.size + 1, 0, none⟩ = some (.int .i64 m.base) := (hb.cell (by simp; omega)).trans (by first | exact Qc0 | (simp [go_sem, Qz, Qc0]; done))
      have Qc1' : w21.cell? ⟨w.heap.size + 1, 1, none⟩ = some (.slice B n' d) := (hb.cell (by simp; omega)).trans (by first | exact Qc1 | (simp [go_sem, Qz, Qc1]; done))
      have Cc0' : w21.cell? ⟨w6.heap.size, 0, none⟩ = some (.int .i64 l.base) := (hb.cell (by simp; omega)).trans (by first | exact Cc0 | (simp [go_sem, Cz, Cc0]; done))
      have Cc1' : w21.cell? ⟨w6.heap.size, 1, none⟩ = some (.slice A6 n6 c6) := (hb.cell (by simp; omega)).trans (by first | exact Cc1 | (simp [go_sem, Cz, Cc1]; done))
      have Dc0' : w21.cell? ⟨w7.heap.size, 0, none⟩ = some (.int .i64 m.base) := (hb.cell (by simp; omega)).trans (by first | exact Dc0 | (simp [go_sem, Dz, Dc0]; done))
      have Dc1' : w21.cell? ⟨w7.heap.size, 1, none⟩ = some (.slice A7 n7 c7) := (hb.cell (by simp; omega)).trans (by first | exact Dc1 | (simp [go_sem, Dz, Dc1]; done))
      clear Pc0 Pc1 Qc0 Qc1 Cc0 Cc1 Dc0 Dc1 Pz Qz Cz Dz
      have Pc0 := Pc0'
      have Pc1 := Pc1'
      have Pz := block_lt_of_cell Pc0
      have Qc0 := Qc0'
      have Qc1 := Qc1'
      have Qz := block_lt_of_cell Qc0
      have Cc0 := Cc0'
      have Cc1 := Cc1'
      have Cz := block_lt_of_cell Cc0
      have Dc0 := Dc0'
      have Dc1 := Dc1'
      have Dz := block_lt_of_cell Dc0
      clear Pc0' Pc1' Qc0' Qc1' Cc0' Cc1' Dc0' Dc1'
      have W0' := Lib.hid (by first | exact own_below W0.out hb | exact own_below W0.out (over_alloc hb) | exact own_below W0.out (below_undrew hb))
      clear W0
      have W0 := W0'
      clear W0'
      have G0' := Lib.hid (by first | exact own_below G0.out hb | exact own_below G0.out (over_alloc hb) | exact own_below G0.out (below_undrew hb))
      clear G0
      have G0 := G0'
      clear G0'
      have bel' : Below w.heap.size w w21 := bel.trans ((by first | exact hb | exact over_alloc hb | exact below_undrew hb : Below w18.heap.size w18 w21).mono bel.size)
      clear bel hb
      have bel := bel'
      clear bel'
      have H0 := Lib.hid own
      clear own
      go_wp2_with fail
      refine (eq_nm A21 A5 _ _ c21 c5 (handlesOf l m) (handlesOf l m) _ (own_read H0.out) (own_read W0.out) rfl rfl (by omega) (by omega)).mono ?_
      rintro e w22 ⟨rfl, hb⟩
      have sz22 : w21.heap.size ≤ w22.heap.size := by have := hb.size; simpa using this
      have Pc0' : w22.cell? ⟨w.heap.size, 0, none⟩ = some (.int .i64 l.base) := (hb.cell (by simp; omega)).trans (by first | exact Pc0 | (simp [go_sem, Pz, Pc0]; done))
      have Pc1' : w22.cell? ⟨w.heap.size, 1, none⟩ = some (.slice A n c) := (hb.cell (by simp; omega)).trans (by first | exact Pc1 | (simp [go_sem, Pz, Pc1]; done))
      have Qc0' : w22.cell? ⟨w.heap.size + 1, 0, none⟩ = some (.int .i64 m.base) := (hb.cell (by simp; omega)).trans (by first | exact Qc0 | (simp [go_sem, Qz, Qc0]; done))
      have Qc1' : w22.cell? ⟨w.heap.size + 1, 1, none⟩ = some (.slice B n' d) := (hb.cell (by simp; omega)).trans (by first | exact Qc1 | (simp [go_sem, Qz, Qc1]; done))
      have Cc0' : w22.cell? ⟨w6.heap.size, 0, none⟩ = some (.int .i64 l.base) := (hb.cell (by simp; omega)).trans (by first | exact Cc0 | (simp [go_sem, Cz, Cc0]; done))
      have Cc1' : w22.cell? ⟨w6.heap.size, 1, none⟩ = some (.slice A6 n6 c6) := (hb.cell (by simp; omega)).trans (by first | exact Cc1 | (simp [go_sem, Cz, Cc1]; done))
      have Dc0' : w22.cell? ⟨w7.heap.size, 0, none⟩ = some (.int .i64 m.base) := (hb.cell (by simp; omega)).trans (by first | exact Dc0 | (simp [go_sem, Dz, Dc0]; done))
      have Dc1' : w22.cell? ⟨w7.heap.size, 1, none⟩ = some (.slice A7 n7 c7) := (hb.cell (by simp; omega)).trans (by first | exact Dc1 | (simp [go_sem, Dz, Dc1]; done))
      clear Pc0 Pc1 Qc0 Qc1 Cc0 Cc1 Dc0 Dc1 Pz Qz Cz Dz
      have Pc0 := Pc0'
      have Pc1 := Pc1'
      have Pz := block_lt_of_cell Pc0
      have Qc0 := Qc0'
      have Qc1 := Qc1'
      have Qz := block_lt_of_cell Qc0
      have Cc0 := Cc0'
      have Cc1 := Cc1'
      have Cz := block_lt_of_cell Cc0
      have Dc0 := Dc0'
      have Dc1 := Dc1'
      have Dz := block_lt_of_cell Dc0
      clear Pc0' Pc1' Qc0' Qc1' Cc0' Cc1' Dc0' Dc1'
      have W0' := Lib.hid (by first | exact own_below W0.out hb | exact own_below W0.out (over_alloc hb) | exact own_below W0.out (below_undrew hb))
      clear W0
      have W0 := W0'
      clear W0'
      have G0' := Lib.hid (by first | exact own_below G0.out hb | exact own_below G0.out (over_alloc hb) | exact own_below G0.out (below_undrew hb))
      clear G0
      have G0 := G0'
      clear G0'
      have H0' := Lib.hid (by first | exact own_below H0.out hb | exact own_below H0.out (over_alloc hb) | exact own_below H0.out (below_undrew hb))
      clear H0
      have H0 := H0'
      clear H0'
      have bel' : Below w.heap.size w w22 := bel.trans ((by first | exact hb | exact over_alloc hb | exact below_undrew hb : Below w21.heap.size w21 w22).mono bel.size)
      clear bel hb
      have bel := bel'
      clear bel'
      go_wp2_with fail
      refine (held_nm A8 _ c8 1 _ (by omega) (by omega) (by omega) (own_read G0.out)).mono ?_
      rintro e w23 ⟨rfl, hb⟩
      have sz23 : w22.heap.size ≤ w23.heap.size := by have := hb.size; simpa using this
      have Pc0' : w23.cell? ⟨w.heap.size, 0, none⟩ = some (.int .i64 l.base) := (hb.cell (by simp; omega)).trans (by first | exact Pc0 | (simp [go_sem, Pz, Pc0]; done))
      have Pc1' : w23.cell? ⟨w.heap.size, 1, none⟩ = some (.slice A n c) := (hb.cell (by simp; omega)).trans (by first | exact Pc1 | (simp [go_sem, Pz, Pc1]; done))
      have Qc0' : w23.cell? ⟨w.heap.size + 1, 0, none⟩ = some (.int .i64 m.base) := (hb.cell (by simp; omega)).trans (by first | exact Qc0 | (simp [go_sem, Qz, Qc0]; done))
      have Qc1' : w23.cell? ⟨w.heap.size + 1, 1, none⟩ = some (.slice B n' d) := (hb.cell (by simp; omega)).trans (by first | exact Qc1 | (simp [go_sem, Qz, Qc1]; done))
      have Cc0' : w23.cell? ⟨w6.heap.size, 0, none⟩ = some (.int .i64 l.base) := (hb.cell (by simp; omega)).trans (by first | exact Cc0 | (simp [go_sem, Cz, Cc0]; done))
      have Cc1' : w23.cell? ⟨w6.heap.size, 1, none⟩ = some (.slice A6 n6 c6) := (hb.cell (by simp; omega)).trans (by first | exact Cc1 | (simp [go_sem, Cz, Cc1]; done))
      have Dc0' : w23.cell? ⟨w7.heap.size, 0, none⟩ = some (.int .i64 m.base) := (hb.cell (by simp; omega)).trans (by first | exact Dc0 | (simp [go_sem, Dz, Dc0]; done))
      have Dc1' : w23.cell? ⟨w7.heap.size, 1, none⟩ = some (.slice A7 n7 c7) := (hb.cell (by simp; omega)).trans (by first | exact Dc1 | (simp [go_sem, Dz, Dc1]; done))
      clear Pc0 Pc1 Qc0 Qc1 Cc0 Cc1 Dc0 Dc1 Pz Qz Cz Dz
      have Pc0 := Pc0'
      have Pc1 := Pc1'
      have Pz := block_lt_of_cell Pc0
      have Qc0 := Qc0'
      have Qc1 := Qc1'
      have Qz := block_lt_of_cell Qc0
      have Cc0 := Cc0'
      have Cc1 := Cc1'
      have Cz := block_lt_of_cell Cc0
      have Dc0 := Dc0'
      have Dc1 := Dc1'
      have Dz := block_lt_of_cell Dc0
      clear Pc0' Pc1' Qc0' Qc1' Cc0' Cc1' Dc0' Dc1'
      have W0' := Lib.hid (by first | exact own_below W0.out hb | exact own_below W0.out (over_alloc hb) | exact own_below W0.out (below_undrew hb))
      clear W0
      have W0 := W0'
      clear W0'
      have G0' := Lib.hid (by first | exact own_below G0.out hb | exact own_below G0.out (over_alloc hb) | exact own_below G0.out (below_undrew hb))
      clear G0
      have G0 := G0'
      clear G0'
      have H0' := Lib.hid (by first | exact own_below H0.out hb | exact own_below H0.out (over_alloc hb) | exact own_below H0.out (below_undrew hb))
      clear H0
      have H0 := H0'
      clear H0'
      have bel' : Below w.heap.size w w23 := bel.trans ((by first | exact hb | exact over_alloc hb | exact below_undrew hb : Below w22.heap.size w22 w23).mono bel.size)
      clear bel hb
      have bel := bel'
      clear bel'
      go_wp2
      go_ret
      exact ⟨rfl, bel⟩
    · have hge : ¬ (1048576 : Int) - n < 0 := by omega
      clear hn h0 hn' g0
      go_enter Try.func7, Try.ntmps7
      go_wp2_with fail
      refine (sz_lab_yes A n c l.base 1048576 _ (by omega) (by omega) (by omega)).mono ?_
      rintro e w1 ⟨rfl, hb⟩
      obtain ⟨⟨Pc0, Pc1⟩, ⟨Qc0, Qc1⟩, Qz, bel⟩ := box4 hb
      clear hb
      go_wp2_with fail
      refine (sz_lab_no B n' d m.base (1048576 - n) _ (by omega) (by omega) (by omega) (by omega)).mono ?_
      rintro e w2 ⟨rfl, hb⟩
      go_wp2
      go_ret
      exact ⟨rfl, below_more bel hb⟩
  · clear hn h0 hn' g0
    go_enter Try.func7, Try.ntmps7
    go_wp2_with (go_at_call 9; refine (sz_lab_no _ _ _ _ _ _ (by omega) (by omega) (by omega) (by omega)).mono ?_; rintro e w1 ⟨rfl, hb1⟩)
    go_ret
    exact ⟨rfl, (box4 hb1).2.2.2⟩

set_option maxRecDepth 100000 in
theorem lifted (os : Os) (started : os.Started) (H : Type) (enc : TypeId × Value → H) :
    ReturnsInHanded {} Try.checked os 7 .any (Rows.fnExactHandlesOfSpec.pre6 enc Try.prog Try.f7 Rows.fnExactHandlesOfRow.domain false) (Rows.fnExactHandlesOfSpec.post enc Try.prog Try.f7 false true false false) := by
  refine returnsInHanded_of_change (C := Try.checked) own started (by kernel_rfl) Try.func7
    (ChangeSpec.witness6 (enc := enc) (C := Try.checked) false ⟨#[], #[.agg #[.int .i64 0, .slice none 0 0], .agg #[.int .i64 0, .slice none 0 0]], []⟩ 8 (by kernel_rfl) (by kernel_rfl) (by kernel_rfl) (by kernel_rfl)) ?_
  intro W base args ds gs before hval0 hW hcnd _
  have hval : ∀ (j : Nat) t v, Try.f7.params[j]? = some t → args[j]? = some v → Value.okWide Try.prog W .any base t v := hval0
  have hW' := hW
  obtain ⟨p, q, hA0, hV, rfl, hfz, hnd⟩ := hW
  have hA : DataW.TrodAll enc Try.prog W 0 (fun _ => true) true Try.f7.params.toList args.toList ds p := hA0
  rw [Try.params7] at hA hval
  obtain ⟨v0, vs0, d0, ds0, p0, q0, hargs, rfl, rfl, h0, r0⟩ := trodAll_cons hA
  obtain ⟨v1, vs1, d1, ds1, p1, q1, rfl, rfl, rfl, h1, r1⟩ := trodAll_cons r0
  obtain ⟨rfl, rfl, rfl⟩ := trodAll_nil r1
  obtain rfl : args = #[v0, v1] := by cases args; simp_all
  obtain ⟨rfl, rfl⟩ := trodVars_none hV
  have k0 := h0
  have lt0 : ∀ x ∈ p0, x.block < W.heap.size := by obtain ⟨m, hm⟩ := k0; exact DataW.trod_lt m _ _ _ hm
  have k1 := h1
  have lt1 : ∀ x ∈ p1, x.block < W.heap.size := by obtain ⟨m, hm⟩ := k1; exact DataW.trod_lt m _ _ _ hm
  obtain ⟨l0, hl0⟩ := open_lab (hval 0 24 v0 rfl rfl) h0
  obtain ⟨l1, hl1⟩ := open_lab (hval 1 24 v1 rfl rfl) h1
  clear hA0 hval0
  refine (walk v0 l0 hl0 v1 l1 hl1 (w := W)).mono fun e W' ⟨he, bel⟩ => ?_
  subst he
  exact ⟨_, rfl, _, _, _, [], _, [], hW', (trodAll_cons_mk (shut_bool Try.underlying4 _) trodAll_mk0), (trodAll_cons_mk (Below.trod laidOut (by kernel_rfl) (of_decide_eq_true (by kernel_rfl)) k0 bel lt0) (trodAll_cons_mk (Below.trod laidOut (by kernel_rfl) (of_decide_eq_true (by kernel_rfl)) k1 bel lt1) trodAll_mk0)), rfl, bel.frame _, fun h => by cases h⟩

theorem said : Rows.FnExactHandlesOfSaid :=
  OpenClaim.holds_of_wide 7 Try.f7 rfl rfl rfl rfl rfl rfl rfl ⟨rfl, rfl, rfl, rfl, rfl⟩ rfl rfl rfl rfl rfl (by kernel_rfl) Try.func7 (by kernel_rfl)
    (of_decide_eq_true (by kernel_rfl)) (by unfold Func.isWrapper; first | (rw [if_pos (by decide +kernel)]; kernel_rfl) | (rw [if_neg (by decide +kernel)]; exact ⟨rfl, rfl⟩))
    (fun os started H enc _ => lifted os started H enc)

theorem proved : Rows.FnExactHandlesOfSaid := said
#print axioms proved
end Go.Proofs.Ytobggbejkfkodaa.fnExactHandlesOf
