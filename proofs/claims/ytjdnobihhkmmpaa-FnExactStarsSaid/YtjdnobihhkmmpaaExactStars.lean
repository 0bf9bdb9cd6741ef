/-
  FnExactStars: whatever the input, the law returns true and its arguments read as they did; no condition.
-/
import Derived.Test.YtjdnobihhkmmpaaBase
import Derived.Test.YtjdnobihhkmmpaaRows
import Derived.Test.YtjdnobihhkmmpaaOpen
import Derived.Test.YtjdnobihhkmmpaaHas
import Derived.Test.YtjdnobihhkmmpaaSpecStars
import Derived.Test.YtjdnobihhkmmpaaImplTaint
namespace Go.Proofs.Ytjdnobihhkmmpaa.fnExactStars
set_option maxRecDepth 100000
open Go.ChangeShapes Go.WideShapes Go.ChangeAt Go.RowKit
open Go.ChangeMaps (open_string shut_string)
set_option linter.unusedVariables false

set_option maxHeartbeats 8000000 in
theorem walk {w : World} (v0 : Value) (l : Lab) (h0 : ArgLab w v0 l) :
    Calls Try.prog 4 #[v0] w fun e w' => e = .returned (.bool true) ∧ Below w.heap.size w w' := by
  have g0 := h0
  obtain ⟨A, n, c, rfl, hn0, hc0, hm0, -⟩ := h0
  have hm0' : n ≤ 9223372036854775807 := by unfold maxLen at hm0; omega
  clear hc0 hm0
  by_cases hbig0 : n ≤ 1048576
  · have hr := g0.rd (by omega)
    have hln0 : l.parts.length ≤ 1048576 := by omega
    clear hn0 g0
    go_enter Try.func4, Try.ntmps4
    go_wp2_with fail
    refine (sz_lab_yes A n c l.base 1048576 _ (by omega) (by omega) (by omega)).mono ?_
    rintro e w1 ⟨rfl, hb⟩
    obtain ⟨Pc0, Pc1, Pz, bel⟩ := box2 hb
    have sz1 := Pz
    have hge : ¬ (1048576 : Int) - n < 0 := by omega
    clear hb
    go_wp2_with fail
    refine (to_lab _ l _ (by first | exact hr.below bel | exact hr.below (bel.alloc bel.size _))).mono ?_
    rintro e w2 ⟨v2, rfl, own, hb⟩
    have X9r : Hid (∀ k, (labRow v2).ownBlock = some k → w1.heap.size ≤ k ∧ k < w2.heap.size) := fun k hk => by have := own.row k hk; simpa using this
    have sz2 : w1.heap.size ≤ w2.heap.size := by have := hb.size; simpa using this
    have Pc0' : w2.cell? ⟨w.heap.size, 0, none⟩ = some (.int .i64 l.base) := (hb.cell (by simp; omega)).trans (by first | exact Pc0 | (simp [go_sem, Pz, Pc0]; done))
    have Pc1' : w2.cell? ⟨w.heap.size, 1, none⟩ = some (.slice A n c) := (hb.cell (by simp; omega)).trans (by first | exact Pc1 | (simp [go_sem, Pz, Pc1]; done))
    clear Pc0 Pc1 Pz
    have Pc0 := Pc0'
    have Pc1 := Pc1'
    have Pz := block_lt_of_cell Pc0
    clear Pc0' Pc1'
    have bel' : Below w.heap.size w w2 := bel.trans ((by first | exact hb | exact over_alloc hb | exact below_undrew hb : Below w1.heap.size w1 w2).mono bel.size)
    clear bel hb
    have bel := bel'
    clear bel'
    have X9 := Lib.hid own
    obtain ⟨A2, n2, c2, rfl, -, -, -⟩ := own
    go_wp2_with fail
    refine (spec_stars _ l _ (by first | exact X9.out.rd | exact X9.out.rd.alloc _)).mono ?_
    rintro e w3 ⟨v3, rfl, own, hb⟩
    have W0r : Hid (∀ k, (labRow v3).ownBlock = some k → w2.heap.size ≤ k ∧ k < w3.heap.size) := fun k hk => by have := own.row k hk; simpa using this
    have sz3 : w2.heap.size ≤ w3.heap.size := by have := hb.size; simpa using this
    have Pc0' : w3.cell? ⟨w.heap.size, 0, none⟩ = some (.int .i64 l.base) := (hb.cell (by simp; omega)).trans (by first | exact Pc0 | (simp [go_sem, Pz, Pc0]; done))
    have Pc1' : w3.cell? ⟨w.heap.size, 1, none⟩ = some (.slice A n c) := (hb.cell (by simp; omega)).trans (by first | exact Pc1 | (simp [go_sem, Pz, Pc1]; done))
    clear Pc0 Pc1 Pz
    have Pc0 := Pc0'
    have Pc1 := Pc1'
    have Pz := block_lt_of_cell Pc0
    clear Pc0' Pc1'
    have X9' := Lib.hid (by first | exact X9.out.below hb | exact X9.out.over hb | exact X9.out.below (below_undrew hb))
    clear X9
    have X9 := X9'
    clear X9'
    have bel' : Below w.heap.size w w3 := bel.trans ((by first | exact hb | exact over_alloc hb | exact below_undrew hb : Below w2.heap.size w2 w3).mono bel.size)
    clear bel hb
    have bel := bel'
    clear bel'
    have W0 := Lib.hid own
    obtain ⟨A3, n3, c3, rfl, -, -, -⟩ := own
    clear X9 X9r
    go_wp2_with fail
    refine (to_lab _ l _ (by first | exact hr.below bel | exact hr.below (bel.alloc bel.size _))).mono ?_
    rintro e w4 ⟨v4, rfl, own, hb⟩
    have X0r : Hid (∀ k, (labRow v4).ownBlock = some k → w3.heap.size + 1 ≤ k ∧ k < w4.heap.size) := fun k hk => by have := own.row k hk; simpa using this
    have sz4 : w3.heap.size + 1 ≤ w4.heap.size := by have := hb.size; simpa using this
    have Pc0' : w4.cell? ⟨w.heap.size, 0, none⟩ = some (.int .i64 l.base) := (hb.cell (by simp; omega)).trans (by first | exact Pc0 | (simp [go_sem, Pz, Pc0]; done))
    have Pc1' : w4.cell? ⟨w.heap.size, 1, none⟩ = some (.slice A n c) := (hb.cell (by simp; omega)).trans (by first | exact Pc1 | (simp [go_sem, Pz, Pc1]; done))
    clear Pc0 Pc1 Pz
    have Pc0 := Pc0'
    have Pc1 := Pc1'
    have Pz := block_lt_of_cell Pc0
    clear Pc0' Pc1'
    have BWc0 : w4.cell? ⟨w3.heap.size, 0, none⟩ = some (.int .i64 (starsL l).1.base) := (hb.cell (by simp)).trans (World.cell?_alloc_new _ _ _ 0)
    have BWc1 : w4.cell? ⟨w3.heap.size, 1, none⟩ = some (.slice A3 n3 c3) := (hb.cell (by simp)).trans (World.cell?_alloc_new _ _ _ 1)
    have BWz := block_lt_of_cell BWc0
    have W0' := Lib.hid (by first | exact W0.out.below hb | exact W0.out.over hb | exact W0.out.below (below_undrew hb))
    clear W0
    have W0 := W0'
    clear W0'
    have bel' : Below w.heap.size w w4 := bel.trans ((by first | exact hb | exact over_alloc hb | exact below_undrew hb : Below w3.heap.size w3 w4).mono bel.size)
    clear bel hb
    have bel := bel'
    clear bel'
    have X0 := Lib.hid own
    obtain ⟨A4, n4, c4, rfl, -, -, -⟩ := own
    go_wp2_with fail
    refine (impl_stars _ l _ (by first | exact X0.out.rd | exact X0.out.rd.alloc _)).mono ?_
    rintro e w5 ⟨v5, rfl, own, hb⟩
    have G0r : Hid (∀ k, (labRow v5).ownBlock = some k → w4.heap.size + 1 ≤ k ∧ k < w5.heap.size) := fun k hk => by have := own.row k hk; simpa using this
    have sz5 : w4.heap.size + 1 ≤ w5.heap.size := by have := hb.size; simpa using this
    have Pc0' : w5.cell? ⟨w.heap.size, 0, none⟩ = some (.int .i64 l.base) := (hb.cell (by simp; omega)).trans (by first | exact Pc0 | (simp [go_sem, Pz, Pc0]; done))
    have Pc1' : w5.cell? ⟨w.heap.size, 1, none⟩ = some (.slice A n c) := (hb.cell (by simp; omega)).trans (by first | exact Pc1 | (simp [go_sem, Pz, Pc1]; done))
    have BWc0' : w5.cell? ⟨w3.heap.size, 0, none⟩ = some (.int .i64 (starsL l).1.base) := (hb.cell (by simp; omega)).trans (by first | exact BWc0 | (simp [go_sem, BWz, BWc0]; done))
    have BWc1' : w5.cell? ⟨w3.heap.size, 1, none⟩ = some (.slice A3 n3 c3) := (hb.cell (by simp; omega)).trans (by first | exact BWc1 | (simp [go_sem, BWz, BWc1]; done))
    clear Pc0 Pc1 BWc0 BWc1 Pz BWz
    have Pc0 := Pc0'
    have Pc1 := Pc1'
    have Pz := block_lt_of_cell Pc0
    have BWc0 := BWc0'
    have BWc1 := BWc1'
    have BWz := block_lt_of_cell BWc0
    clear Pc0' Pc1' BWc0' BWc1'
    have Cc0 : w5.cell? ⟨w4.heap.size, 0, none⟩ = some (.int .i64 l.base) := (hb.cell (by simp)).trans (World.cell?_alloc_new _ _ _ 0)
    have Cc1 : w5.cell? ⟨w4.heap.size, 1, none⟩ = some (.slice A4 n4 c4) := (hb.cell (by simp)).trans (World.cell?_alloc_new _ _ _ 1)
    have Cz := block_lt_of_cell Cc0
    have W0' := Lib.hid (by first | exact W0.out.below hb | exact W0.out.over hb | exact W0.out.below (below_undrew hb))
    clear W0
    have W0 := W0'
    clear W0'
    have X0' := Lib.hid (by first | exact X0.out.below hb | exact X0.out.over hb | exact X0.out.below (below_undrew hb))
    clear X0
    have X0 := X0'
    clear X0'
    have bel' : Below w.heap.size w w5 := bel.trans ((by first | exact hb | exact over_alloc hb | exact below_undrew hb : Below w4.heap.size w4 w5).mono bel.size)
    clear bel hb
    have bel := bel'
    clear bel'
    have G0 := Lib.hid own
    obtain ⟨A5, n5, c5, rfl, -, -, -⟩ := own
    have heq := labEq_rfl (starsL l).1
    go_wp2_with fail
    refine (eq_lab _ _ (starsL l).1 (starsL l).1 _ (by first | exact G0.out.rd | exact G0.out.rd.alloc _) (by first | exact W0.out.rd | exact W0.out.rd.alloc _)).mono ?_
    rintro e w6 ⟨rfl, hb⟩
    have sz6 : w5.heap.size + 1 ≤ w6.heap.size := by have := hb.size; simpa using this
    have Pc0' : w6.cell? ⟨w.heap.size, 0, none⟩ = some (.int .i64 l.base) := (hb.cell (by simp; omega)).trans (by first | exact Pc0 | (simp [go_sem, Pz, Pc0]; done))
    have Pc1' : w6.cell? ⟨w.heap.size, 1, none⟩ = some (.slice A n c) := (hb.cell (by simp; omega)).trans (by first | exact Pc1 | (simp [go_sem, Pz, Pc1]; done))
    have BWc0' : w6.cell? ⟨w3.heap.size, 0, none⟩ = some (.int .i64 (starsL l).1.base) := (hb.cell (by simp; omega)).trans (by first | exact BWc0 | (simp [go_sem, BWz, BWc0]; done))
    have BWc1' : w6.cell? ⟨w3.heap.size, 1, none⟩ = some (.slice A3 n3 c3) := (hb.cell (by simp; omega)).trans (by first | exact BWc1 | (simp [go_sem, BWz, BWc1]; done))
    have Cc0' : w6.cell? ⟨w4.heap.size, 0, none⟩ = some (.int .i64 l.base) := (hb.cell (by simp; omega)).trans (by first | exact Cc0 | (simp [go_sem, Cz, Cc0]; done))
    have Cc1' : w6.cell? ⟨w4.heap.size, 1, none⟩ = some (.slice A4 n4 c4) := (hb.cell (by simp; omega)).trans (by first | exact Cc1 | (simp [go_sem, Cz, Cc1]; done))
    clear Pc0 Pc1 BWc0 BWc1 Cc0 Cc1 Pz BWz Cz
    have Pc0 := Pc0'
    have Pc1 := Pc1'
    have Pz := block_lt_of_cell Pc0
    have BWc0 := BWc0'
    have BWc1 := BWc1'
    have BWz := block_lt_of_cell BWc0
    have Cc0 := Cc0'
    have Cc1 := Cc1'
    have Cz := block_lt_of_cell Cc0
    clear Pc0' Pc1' BWc0' BWc1' Cc0' Cc1'
    have BGc0 : w6.cell? ⟨w5.heap.size, 0, none⟩ = some (.int .i64 (starsL l).1.base) := (hb.cell (by simp)).trans (World.cell?_alloc_new _ _ _ 0)
    have BGc1 : w6.cell? ⟨w5.heap.size, 1, none⟩ = some (.slice A5 n5 c5) := (hb.cell (by simp)).trans (World.cell?_alloc_new _ _ _ 1)
    have BGz := block_lt_of_cell BGc0
    have W0' := Lib.hid (by first | exact W0.out.below hb | exact W0.out.over hb | exact W0.out.below (below_undrew hb))
    clear W0
    have W0 := W0'
    clear W0'
    have X0' := Lib.hid (by first | exact X0.out.below hb | exact X0.out.over hb | exact X0.out.below (below_undrew hb))
    clear X0
    have X0 := X0'
    clear X0'
    have G0' := Lib.hid (by first | exact G0.out.below hb | exact G0.out.over hb | exact G0.out.below (below_undrew hb))
    clear G0
    have G0 := G0'
    clear G0'
    have bel' : Below w.heap.size w w6 := bel.trans ((by first | exact hb | exact over_alloc hb | exact below_undrew hb : Below w5.heap.size w5 w6).mono bel.size)
    clear bel hb
    have bel := bel'
    clear bel'
    have heql := labEq_rfl l
    go_wp2
    go_region_held3 (fun w' => w'.cell? ⟨w.heap.size, 0, none⟩ = some (.int .i64 l.base) ∧ w'.cell? ⟨w.heap.size, 1, none⟩ = some (.slice A n c) ∧ w'.cell? ⟨w3.heap.size, 0, none⟩ = some (.int .i64 (starsL l).1.base) ∧ w'.cell? ⟨w3.heap.size, 1, none⟩ = some (.slice A3 n3 c3) ∧ w'.cell? ⟨w4.heap.size, 0, none⟩ = some (.int .i64 l.base) ∧ w'.cell? ⟨w4.heap.size, 1, none⟩ = some (.slice A4 n4 c4) ∧ w'.cell? ⟨w5.heap.size, 0, none⟩ = some (.int .i64 (starsL l).1.base) ∧ w'.cell? ⟨w5.heap.size, 1, none⟩ = some (.slice A5 n5 c5))
      (first | exact ⟨kb0, kb1, kb2, kb3, kb4, kb5, kb6, kb7⟩ | exact ⟨ka0, ka1, ka2, ka3, ka4, ka5, ka6, ka7⟩ | go_keep)
      (first
      | (go_at_call 19
         refine (to_lab _ l _ (hr.below (by first | exact bel | exact bel.drew))).mono ?_
         rintro e w7 ⟨va, rfl, owna, hba⟩
         have ka0 : w7.cell? ⟨w.heap.size, 0, none⟩ = some (.int .i64 l.base) := (hba.cell (by simp; omega)).trans (by exact Pc0)
         have za0 : w.heap.size < w7.heap.size := block_lt_of_cell ka0
         have ka1 : w7.cell? ⟨w.heap.size, 1, none⟩ = some (.slice A n c) := (hba.cell (by simp; omega)).trans (by exact Pc1)
         have za1 : w.heap.size < w7.heap.size := block_lt_of_cell ka1
         have ka2 : w7.cell? ⟨w3.heap.size, 0, none⟩ = some (.int .i64 (starsL l).1.base) := (hba.cell (by simp; omega)).trans (by exact BWc0)
         have za2 : w3.heap.size < w7.heap.size := block_lt_of_cell ka2
         have ka3 : w7.cell? ⟨w3.heap.size, 1, none⟩ = some (.slice A3 n3 c3) := (hba.cell (by simp; omega)).trans (by exact BWc1)
         have za3 : w3.heap.size < w7.heap.size := block_lt_of_cell ka3
         have ka4 : w7.cell? ⟨w4.heap.size, 0, none⟩ = some (.int .i64 l.base) := (hba.cell (by simp; omega)).trans (by exact Cc0)
         have za4 : w4.heap.size < w7.heap.size := block_lt_of_cell ka4
         have ka5 : w7.cell? ⟨w4.heap.size, 1, none⟩ = some (.slice A4 n4 c4) := (hba.cell (by simp; omega)).trans (by exact Cc1)
         have za5 : w4.heap.size < w7.heap.size := block_lt_of_cell ka5
         have ka6 : w7.cell? ⟨w5.heap.size, 0, none⟩ = some (.int .i64 (starsL l).1.base) := (hba.cell (by simp; omega)).trans (by exact BGc0)
         have za6 : w5.heap.size < w7.heap.size := block_lt_of_cell ka6
         have ka7 : w7.cell? ⟨w5.heap.size, 1, none⟩ = some (.slice A5 n5 c5) := (hba.cell (by simp; omega)).trans (by exact BGc1)
         have za7 : w5.heap.size < w7.heap.size := block_lt_of_cell ka7
         have HBA := Lib.hid hba
         have rda := owna.rd
         have rdx := X0.out.rd.below (by first | exact hba | exact below_undrew hba)
         obtain ⟨Aa, na, ca, rfl, -, -, -⟩ := owna
         clear hba)
      | (go_at_call 20
         refine (eq_lab _ _ l l _ (by exact rdx) (by exact rda)).mono ?_
         rintro e w8 ⟨rfl, hbb⟩
         have kb0 : w8.cell? ⟨w.heap.size, 0, none⟩ = some (.int .i64 l.base) := (hbb.cell (by simp; omega)).trans (by exact ka0)
         have kb1 : w8.cell? ⟨w.heap.size, 1, none⟩ = some (.slice A n c) := (hbb.cell (by simp; omega)).trans (by exact ka1)
         have kb2 : w8.cell? ⟨w3.heap.size, 0, none⟩ = some (.int .i64 (starsL l).1.base) := (hbb.cell (by simp; omega)).trans (by exact ka2)
         have kb3 : w8.cell? ⟨w3.heap.size, 1, none⟩ = some (.slice A3 n3 c3) := (hbb.cell (by simp; omega)).trans (by exact ka3)
         have kb4 : w8.cell? ⟨w4.heap.size, 0, none⟩ = some (.int .i64 l.base) := (hbb.cell (by simp; omega)).trans (by exact ka4)
         have kb5 : w8.cell? ⟨w4.heap.size, 1, none⟩ = some (.slice A4 n4 c4) := (hbb.cell (by simp; omega)).trans (by exact ka5)
         have kb6 : w8.cell? ⟨w5.heap.size, 0, none⟩ = some (.int .i64 (starsL l).1.base) := (hbb.cell (by simp; omega)).trans (by exact ka6)
         have kb7 : w8.cell? ⟨w5.heap.size, 1, none⟩ = some (.slice A5 n5 c5) := (hbb.cell (by simp; omega)).trans (by exact ka7)
         have HBB : Hid (Below w6.heap.size w6 w8) := (by first | exact HBA.out | exact below_undrew HBA.out : Below w6.heap.size w6 w7).trans (hbb.mono (by first | exact HBA.out.size | exact (below_undrew HBA.out).size))
         clear hbb))
    have hb := HBB.out
    clear HBB HBA rda rdx ka0 za0 kb0 ka1 za1 kb1 ka2 za2 kb2 ka3 za3 kb3 ka4 za4 kb4 ka5 za5 kb5 ka6 za6 kb6 ka7 za7 kb7
    have sz8 : w6.heap.size ≤ w8.heap.size := by have := hb.size; simpa using this
    have Pc0' : w8.cell? ⟨w.heap.size, 0, none⟩ = some (.int .i64 l.base) := (hb.cell (by simp; omega)).trans (by first | exact Pc0 | (simp [go_sem, Pz, Pc0]; done))
    have Pc1' : w8.cell? ⟨w.heap.size, 1, none⟩ = some (.slice A n c) := (hb.cell (by simp; omega)).trans (by first | exact Pc1 | (simp [go_sem, Pz, Pc1]; done))
    have BWc0' : w8.cell? ⟨w3.heap.size, 0, none⟩ = some (.int .i64 (starsL l).1.base) := (hb.cell (by simp; omega)).trans (by first | exact BWc0 | (simp [go_sem, BWz, BWc0]; done))
    have BWc1' : w8.cell? ⟨w3.heap.size, 1, none⟩ = some (.slice A3 n3 c3) := (hb.cell (by simp; omega)).trans (by first | exact BWc1 | (simp [go_sem, BWz, BWc1]; done))
    have Cc0' : w8.cell? ⟨w4.heap.size, 0, none⟩ = some (.int .i64 l.base) := (hb.cell (by simp; omega)).trans (by first | exact Cc0 | (simp [go_sem, Cz, Cc0]; done))
    have Cc1' : w8.cell? ⟨w4.heap.size, 1, none⟩ = some (.slice A4 n4 c4) := (hb.cell (by simp; omega)).trans (by first | exact Cc1 | (simp [go_sem, Cz, Cc1]; done))
    have BGc0' : w8.cell? ⟨w5.heap.size, 0, none⟩ = some (.int .i64 (starsL l).1.base) := (hb.cell (by simp; omega)).trans (by first | exact BGc0 | (simp [go_sem, BGz, BGc0]; done))
    have BGc1' : w8.cell? ⟨w5.heap.size, 1, none⟩ = some (.slice A5 n5 c5) := (hb.cell (by simp; omega)).trans (by first | exact BGc1 | (simp [go_sem, BGz, BGc1]; done))
    clear Pc0 Pc1 BWc0 BWc1 Cc0 Cc1 BGc0 BGc1 Pz BWz Cz BGz
    have Pc0 := Pc0'
    have Pc1 := Pc1'
    have Pz := block_lt_of_cell Pc0
    have BWc0 := BWc0'
    have BWc1 := BWc1'
    have BWz := block_lt_of_cell BWc0
    have Cc0 := Cc0'
    have Cc1 := Cc1'
    have Cz := block_lt_of_cell Cc0
    have BGc0 := BGc0'
    have BGc1 := BGc1'
    have BGz := block_lt_of_cell BGc0
    clear Pc0' Pc1' BWc0' BWc1' Cc0' Cc1' BGc0' BGc1'
    have W0' := Lib.hid (by first | exact W0.out.below hb | exact W0.out.over hb | exact W0.out.below (below_undrew hb))
    clear W0
    have W0 := W0'
    clear W0'
    have X0' := Lib.hid (by first | exact X0.out.below hb | exact X0.out.over hb | exact X0.out.below (below_undrew hb))
    clear X0
    have X0 := X0'
    clear X0'
    have G0' := Lib.hid (by first | exact G0.out.below hb | exact G0.out.over hb | exact G0.out.below (below_undrew hb))
    clear G0
    have G0 := G0'
    clear G0'
    have bel' : Below w.heap.size w w8 := bel.trans ((by first | exact hb | exact over_alloc hb | exact below_undrew hb : Below w6.heap.size w6 w8).mono bel.size)
    clear bel hb
    have bel := bel'
    clear bel'
    go_wp2_with fail
    refine (mark_lab _ l _ _ _ (by omega) (by omega) X0.out).mono ?_
    rintro e w9 ⟨rfl, own, hg⟩
    have sz9 : w8.heap.size ≤ w9.heap.size := hg.size
    have Pc0' : w9.cell? ⟨w.heap.size, 0, none⟩ = some (.int .i64 l.base) := hg.cell Pc0 (fun e => by have := X0r.out (w.heap.size) e.symm; omega)
    have Pc1' : w9.cell? ⟨w.heap.size, 1, none⟩ = some (.slice A n c) := hg.cell Pc1 (fun e => by have := X0r.out (w.heap.size) e.symm; omega)
    have BWc0' : w9.cell? ⟨w3.heap.size, 0, none⟩ = some (.int .i64 (starsL l).1.base) := hg.cell BWc0 (fun e => by have := X0r.out (w3.heap.size) e.symm; omega)
    have BWc1' : w9.cell? ⟨w3.heap.size, 1, none⟩ = some (.slice A3 n3 c3) := hg.cell BWc1 (fun e => by have := X0r.out (w3.heap.size) e.symm; omega)
    have Cc0' : w9.cell? ⟨w4.heap.size, 0, none⟩ = some (.int .i64 l.base) := hg.cell Cc0 (fun e => by have := X0r.out (w4.heap.size) e.symm; omega)
    have Cc1' : w9.cell? ⟨w4.heap.size, 1, none⟩ = some (.slice A4 n4 c4) := hg.cell Cc1 (fun e => by have := X0r.out (w4.heap.size) e.symm; omega)
    have BGc0' : w9.cell? ⟨w5.heap.size, 0, none⟩ = some (.int .i64 (starsL l).1.base) := hg.cell BGc0 (fun e => by have := X0r.out (w5.heap.size) e.symm; omega)
    have BGc1' : w9.cell? ⟨w5.heap.size, 1, none⟩ = some (.slice A5 n5 c5) := hg.cell BGc1 (fun e => by have := X0r.out (w5.heap.size) e.symm; omega)
    clear Pc0 Pc1 BWc0 BWc1 Cc0 Cc1 BGc0 BGc1 Pz BWz Cz BGz
    have Pc0 := Pc0'
    have Pc1 := Pc1'
    have Pz := block_lt_of_cell Pc0
    have BWc0 := BWc0'
    have BWc1 := BWc1'
    have BWz := block_lt_of_cell BWc0
    have Cc0 := Cc0'
    have Cc1 := Cc1'
    have Cz := block_lt_of_cell Cc0
    have BGc0 := BGc0'
    have BGc1 := BGc1'
    have BGz := block_lt_of_cell BGc0
    clear Pc0' Pc1' BWc0' BWc1' Cc0' Cc1' BGc0' BGc1'
    have W0' := Lib.hid (W0.out.keptBy hg (fun k hk e => by have := X0r.out _ e; have := W0r.out _ hk; omega))
    clear W0
    have W0 := W0'
    clear W0'
    have G0' := Lib.hid (G0.out.keptBy hg (fun k hk e => by have := X0r.out _ e; have := G0r.out _ hk; omega))
    clear G0
    have G0 := G0'
    clear G0'
    clear X0
    have X0 := Lib.hid own
    have bel' : Below w.heap.size w w9 := bel.grown hg bel.size (fun k hk => by have := X0r.out _ hk; omega)
    clear bel hg own
    have bel := bel'
    clear bel'
    clear X0 X0r
    have hk1 : ¬ (1 : Int) + 2 * (l.parts.length : Int) < 0 := by omega
    go_wp2_with fail
    refine (eq_lab _ _ (starsL l).1 (starsL l).1 _ (by first | exact G0.out.rd | exact G0.out.rd.alloc _) (by first | exact W0.out.rd | exact W0.out.rd.alloc _)).mono ?_
    rintro e w10 ⟨rfl, hb⟩
    have sz10 : w9.heap.size ≤ w10.heap.size := by have := hb.size; simpa using this
    have Pc0' : w10.cell? ⟨w.heap.size, 0, none⟩ = some (.int .i64 l.base) := (hb.cell (by simp; omega)).trans (by first | exact Pc0 | (simp [go_sem, Pz, Pc0]; done))
    have Pc1' : w10.cell? ⟨w.heap.size, 1, none⟩ = some (.slice A n c) := (hb.cell (by simp; omega)).trans (by first | exact Pc1 | (simp [go_sem, Pz, Pc1]; done))
    have BWc0' : w10.cell? ⟨w3.heap.size, 0, none⟩ = some (.int .i64 (starsL l).1.base) := (hb.cell (by simp; omega)).trans (by first | exact BWc0 | (simp [go_sem, BWz, BWc0]; done))
    have BWc1' : w10.cell? ⟨w3.heap.size, 1, none⟩ = some (.slice A3 n3 c3) := (hb.cell (by simp; omega)).trans (by first | exact BWc1 | (simp [go_sem, BWz, BWc1]; done))
    have Cc0' : w10.cell? ⟨w4.heap.size, 0, none⟩ = some (.int .i64 l.base) := (hb.cell (by simp; omega)).trans (by first | exact Cc0 | (simp [go_sem, Cz, Cc0]; done))
    have Cc1' : w10.cell? ⟨w4.heap.size, 1, none⟩ = some (.slice A4 n4 c4) := (hb.cell (by simp; omega)).trans (by first | exact Cc1 | (simp [go_sem, Cz, Cc1]; done))
    have BGc0' : w10.cell? ⟨w5.heap.size, 0, none⟩ = some (.int .i64 (starsL l).1.base) := (hb.cell (by simp; omega)).trans (by first | exact BGc0 | (simp [go_sem, BGz, BGc0]; done))
    have BGc1' : w10.cell? ⟨w5.heap.size, 1, none⟩ = some (.slice A5 n5 c5) := (hb.cell (by simp; omega)).trans (by first | exact BGc1 | (simp [go_sem, BGz, BGc1]; done))
    clear Pc0 Pc1 BWc0 BWc1 Cc0 Cc1 BGc0 BGc1 Pz BWz Cz BGz
    have Pc0 := Pc0'
    have Pc1 := Pc1'
    have Pz := block_lt_of_cell Pc0
    have BWc0 := BWc0'
    have BWc1 := BWc1'
    have BWz := block_lt_of_cell BWc0
    have Cc0 := Cc0'
    have Cc1 := Cc1'
    have Cz := block_lt_of_cell Cc0
    have BGc0 := BGc0'
    have BGc1 := BGc1'
    have BGz := block_lt_of_cell BGc0
    clear Pc0' Pc1' BWc0' BWc1' Cc0' Cc1' BGc0' BGc1'
    have W0' := Lib.hid (by first | exact W0.out.below hb | exact W0.out.over hb | exact W0.out.below (below_undrew hb))
    clear W0
    have W0 := W0'
    clear W0'
    have G0' := Lib.hid (by first | exact G0.out.below hb | exact G0.out.over hb | exact G0.out.below (below_undrew hb))
    clear G0
    have G0 := G0'
    clear G0'
    have bel' : Below w.heap.size w w10 := bel.trans ((by first | exact hb | exact over_alloc hb | exact below_undrew hb : Below w9.heap.size w9 w10).mono bel.size)
    clear bel hb
    have bel := bel'
    clear bel'
    go_wp2_with fail
    refine (mark_lab _ (starsL l).1 _ _ _ (by omega) (by omega) G0.out).mono ?_
    rintro e w11 ⟨rfl, own, hg⟩
    have sz11 : w10.heap.size ≤ w11.heap.size := hg.size
    have Pc0' : w11.cell? ⟨w.heap.size, 0, none⟩ = some (.int .i64 l.base) := hg.cell Pc0 (fun e => by have := G0r.out (w.heap.size) e.symm; omega)
    have Pc1' : w11.cell? ⟨w.heap.size, 1, none⟩ = some (.slice A n c) := hg.cell Pc1 (fun e => by have := G0r.out (w.heap.size) e.symm; omega)
    have BWc0' : w11.cell? ⟨w3.heap.size, 0, none⟩ = some (.int .i64 (starsL l).1.base) := hg.cell BWc0 (fun e => by have := G0r.out (w3.heap.size) e.symm; omega)
    have BWc1' : w11.cell? ⟨w3.heap.size, 1, none⟩ = some (.slice A3 n3 c3) := hg.cell BWc1 (fun e => by have := G0r.out (w3.heap.size) e.symm; omega)
    have Cc0' : w11.cell? ⟨w4.heap.size, 0, none⟩ = some (.int .i64 l.base) := hg.cell Cc0 (fun e => by have := G0r.out (w4.heap.size) e.symm; omega)
    have Cc1' : w11.cell? ⟨w4.heap.size, 1, none⟩ = some (.slice A4 n4 c4) := hg.cell Cc1 (fun e => by have := G0r.out (w4.heap.size) e.symm; omega)
    have BGc0' : w11.cell? ⟨w5.heap.size, 0, none⟩ = some (.int .i64 (starsL l).1.base) := hg.cell BGc0 (fun e => by have := G0r.out (w5.heap.size) e.symm; omega)
    have BGc1' : w11.cell? ⟨w5.heap.size, 1, none⟩ = some (.slice A5 n5 c5) := hg.cell BGc1 (fun e => by have := G0r.out (w5.heap.size) e.symm; omega)
    clear Pc0 Pc1 BWc0 BWc1 Cc0 Cc1 BGc0 BGc1 Pz BWz Cz BGz
    have Pc0 := Pc0'
    have Pc1 := Pc1'
    have Pz := block_lt_of_cell Pc0
    have BWc0 := BWc0'
    have BWc1 := BWc1'
    have BWz := block_lt_of_cell BWc0
    have Cc0 := Cc0'
    have Cc1 := Cc1'
    have Cz := block_lt_of_cell Cc0
    have BGc0 := BGc0'
    have BGc1 := BGc1'
    have BGz := block_lt_of_cell BGc0
    clear Pc0' Pc1' BWc0' BWc1' Cc0' Cc1' BGc0' BGc1'
    have W0' := Lib.hid (W0.out.keptBy hg (fun k hk e => by have := G0r.out _ e; have := W0r.out _ hk; omega))
    clear W0
    have W0 := W0'
    clear W0'
    clear G0
    have G0 := Lib.hid own
    have bel' : Below w.heap.size w w11 := bel.grown hg bel.size (fun k hk => by have := G0r.out _ hk; omega)
    clear bel hg own
    have bel := bel'
    clear bel'
    have hk2 : ¬ (1 : Int) + 2 * ((starsL l).1.parts.length : Int) < 0 := by omega
    go_wp2_with fail
    refine (held_lab _ (starsL l).1 1 _ (by omega) (by omega) G0.out.rd).mono ?_
    rintro e w12 ⟨rfl, hb⟩
    have sz12 : w11.heap.size ≤ w12.heap.size := by have := hb.size; simpa using this
    have Pc0' : w12.cell? ⟨w.heap.size, 0, none⟩ = some (.int .i64 l.base) := (hb.cell (by simp; omega)).trans (by first | exact Pc0 | (simp [go_sem, Pz, Pc0]; done))
    have Pc1' : w12.cell? ⟨w.heap.size, 1, none⟩ = some (.slice A n c) := (hb.cell (by simp; omega)).trans (by first | exact Pc1 | (simp [go_sem, Pz, Pc1]; done))
    have BWc0' : w12.cell? ⟨w3.heap.size, 0, none⟩ = some (.int .i64 (starsL l).1.base) := (hb.cell (by simp; omega)).trans (by first | exact BWc0 | (simp [go_sem, BWz, BWc0]; done))
    have BWc1' : w12.cell? ⟨w3.heap.size, 1, none⟩ = some (.slice A3 n3 c3) := (hb.cell (by simp; omega)).trans (by first | exact BWc1 | (simp [go_sem, BWz, BWc1]; done))
    have Cc0' : w12.cell? ⟨w4.heap.size, 0, none⟩ = some (.int .i64 l.base) := (hb.cell (by simp; omega)).trans (by first | exact Cc0 | (simp [go_sem, Cz, Cc0]; done))
    have Cc1' : w12.cell? ⟨w4.heap.size, 1, none⟩ = some (.slice A4 n4 c4) := (hb.cell (by simp; omega)).trans (by first | exact Cc1 | (simp [go_sem, Cz, Cc1]; done))
    have BGc0' : w12.cell? ⟨w5.heap.size, 0, none⟩ = some (.int .i64 (starsL l).1.base) := (hb.cell (by simp; omega)).trans (by first | exact BGc0 | (simp [go_sem, BGz, BGc0]; done))
    have BGc1' : w12.cell? ⟨w5.heap.size, 1, none⟩ = some (.slice A5 n5 c5) := (hb.cell (by simp; omega)).trans (by first | exact BGc1 | (simp [go_sem, BGz, BGc1]; done))
    clear Pc0 Pc1 BWc0 BWc1 Cc0 Cc1 BGc0 BGc1 Pz BWz Cz BGz
    have Pc0 := Pc0'
    have Pc1 := Pc1'
    have Pz := block_lt_of_cell Pc0
    have BWc0 := BWc0'
    have BWc1 := BWc1'
    have BWz := block_lt_of_cell BWc0
    have Cc0 := Cc0'
    have Cc1 := Cc1'
    have Cz := block_lt_of_cell Cc0
    have BGc0 := BGc0'
    have BGc1 := BGc1'
    have BGz := block_lt_of_cell BGc0
    clear Pc0' Pc1' BWc0' BWc1' Cc0' Cc1' BGc0' BGc1'
    have W0' := Lib.hid (by first | exact W0.out.below hb | exact W0.out.over hb | exact W0.out.below (below_undrew hb))
    clear W0
    have W0 := W0'
    clear W0'
    have G0' := Lib.hid (by first | exact G0.out.below hb | exact G0.out.over hb | exact G0.out.below (below_undrew hb))
    clear G0
    have G0 := G0'
    clear G0'
    have bel' : Below w.heap.size w w12 := bel.trans ((by first | exact hb | exact over_alloc hb | exact below_undrew hb : Below w11.heap.size w11 w12).mono bel.size)
    clear bel hb
    have bel := bel'
    clear bel'
    go_wp2_with fail
    refine (to_lab _ l _ (by first | exact hr.below bel | exact hr.below (bel.alloc bel.size _))).mono ?_
    rintro e w13 ⟨v13, rfl, own, hb⟩
    have X9r : Hid (∀ k, (labRow v13).ownBlock = some k → w12.heap.size ≤ k ∧ k < w13.heap.size) := fun k hk => by have := own.row k hk; simpa using this
    have sz13 : w12.heap.size ≤ w13.heap.size := by have := hb.size; simpa using this
    have Pc0' : w13.cell? ⟨w.heap.size, 0, none⟩ = some (.int .i64 l.base) := (hb.cell (by simp; omega)).trans (by first | exact Pc0 | (simp [go_sem, Pz, Pc0]; done))
    have Pc1' : w13.cell? ⟨w.heap.size, 1, none⟩ = some (.slice A n c) := (hb.cell (by simp; omega)).trans (by first | exact Pc1 | (simp [go_sem, Pz, Pc1]; done))
    have BWc0' : w13.cell? ⟨w3.heap.size, 0, none⟩ = some (.int .i64 (starsL l).1.base) := (hb.cell (by simp; omega)).trans (by first | exact BWc0 | (simp [go_sem, BWz, BWc0]; done))
    have BWc1' : w13.cell? ⟨w3.heap.size, 1, none⟩ = some (.slice A3 n3 c3) := (hb.cell (by simp; omega)).trans (by first | exact BWc1 | (simp [go_sem, BWz, BWc1]; done))
    have Cc0' : w13.cell? ⟨w4.heap.size, 0, none⟩ = some (.int .i64 l.base) := (hb.cell (by simp; omega)).trans (by first | exact Cc0 | (simp [go_sem, Cz, Cc0]; done))
    have Cc1' : w13.cell? ⟨w4.heap.size, 1, none⟩ = some (.slice A4 n4 c4) := (hb.cell (by simp; omega)).trans (by first | exact Cc1 | (simp [go_sem, Cz, Cc1]; done))
    have BGc0' : w13.cell? ⟨w5.heap.size, 0, none⟩ = some (.int .i64 (starsL l).1.base) := (hb.cell (by simp; omega)).trans (by first | exact BGc0 | (simp [go_sem, BGz, BGc0]; done))
    have BGc1' : w13.cell? ⟨w5.heap.size, 1, none⟩ = some (.slice A5 n5 c5) := (hb.cell (by simp; omega)).trans (by first | exact BGc1 | (simp [go_sem, BGz, BGc1]; done))
    clear Pc0 Pc1 BWc0 BWc1 Cc0 Cc1 BGc0 BGc1 Pz BWz Cz BGz
    have Pc0 := Pc0'
    have Pc1 := Pc1'
    have Pz := block_lt_of_cell Pc0
    have BWc0 := BWc0'
    have BWc1 := BWc1'
    have BWz := block_lt_of_cell BWc0
    have Cc0 := Cc0'
    have Cc1 := Cc1'
    have Cz := block_lt_of_cell Cc0
    have BGc0 := BGc0'
    have BGc1 := BGc1'
    have BGz := block_lt_of_cell BGc0
    clear Pc0' Pc1' BWc0' BWc1' Cc0' Cc1' BGc0' BGc1'
    have W0' := Lib.hid (by first | exact W0.out.below hb | exact W0.out.over hb | exact W0.out.below (below_undrew hb))
    clear W0
    have W0 := W0'
    clear W0'
    have G0' := Lib.hid (by first | exact G0.out.below hb | exact G0.out.over hb | exact G0.out.below (below_undrew hb))
    clear G0
    have G0 := G0'
    clear G0'
    have bel' : Below w.heap.size w w13 := bel.trans ((by first | exact hb | exact over_alloc hb | exact below_undrew hb : Below w12.heap.size w12 w13).mono bel.size)
    clear bel hb
    have bel := bel'
    clear bel'
    have X9 := Lib.hid own
    obtain ⟨A13, n13, c13, rfl, -, -, -⟩ := own
    go_wp2_with fail
    refine (impl_stars _ l _ (by first | exact X9.out.rd | exact X9.out.rd.alloc _)).mono ?_
    rintro e w14 ⟨v14, rfl, own, hb⟩
    have H0r : Hid (∀ k, (labRow v14).ownBlock = some k → w13.heap.size ≤ k ∧ k < w14.heap.size) := fun k hk => by have := own.row k hk; simpa using this
    have sz14 : w13.heap.size ≤ w14.heap.size := by have := hb.size; simpa using this
    have Pc0' : w14.cell? ⟨w.heap.size, 0, none⟩ = some (.int .i64 l.base) := (hb.cell (by simp; omega)).trans (by first | exact Pc0 | (simp [go_sem, Pz, Pc0]; done))
    have Pc1' : w14.cell? ⟨w.heap.size, 1, none⟩ = some (.slice A n c) := (hb.cell (by simp; omega)).trans (by first | exact Pc1 | (simp [go_sem, Pz, Pc1]; done))
    have BWc0' : w14.cell? ⟨w3.heap.size, 0, none⟩ = some (.int .i64 (starsL l).1.base) := (hb.cell (by simp; omega)).trans (by first | exact BWc0 | (simp [go_sem, BWz, BWc0]; done))
    have BWc1' : w14.cell? ⟨w3.heap.size, 1, none⟩ = some (.slice A3 n3 c3) := (hb.cell (by simp; omega)).trans (by first | exact BWc1 | (simp [go_sem, BWz, BWc1]; done))
    have Cc0' : w14.cell? ⟨w4.heap.size, 0, none⟩ = some (.int .i64 l.base) := (hb.cell (by simp; omega)).trans (by first | exact Cc0 | (simp [go_sem, Cz, Cc0]; done))
    have Cc1' : w14.cell? ⟨w4.heap.size, 1, none⟩ = some (.slice A4 n4 c4) := (hb.cell (by simp; omega)).trans (by first | exact Cc1 | (simp [go_sem, Cz, Cc1]; done))
    have BGc0' : w14.cell? ⟨w5.heap.size, 0, none⟩ = some (.int .i64 (starsL l).1.base) := (hb.cell (by simp; omega)).trans (by first | exact BGc0 | (simp [go_sem, BGz, BGc0]; done))
    have BGc1' : w14.cell? ⟨w5.heap.size, 1, none⟩ = some (.slice A5 n5 c5) := (hb.cell (by simp; omega)).trans (by first | exact BGc1 | (simp [go_sem, BGz, BGc1]; done))
    clear Pc0 Pc1 BWc0 BWc1 Cc0 Cc1 BGc0 BGc1 Pz BWz Cz BGz
    have Pc0 := Pc0'
    have Pc1 := Pc1'
    have Pz := block_lt_of_cell Pc0
    have BWc0 := BWc0'
    have BWc1 := BWc1'
    have BWz := block_lt_of_cell BWc0
    have Cc0 := Cc0'
    have Cc1 := Cc1'
    have Cz := block_lt_of_cell Cc0
    have BGc0 := BGc0'
    have BGc1 := BGc1'
    have BGz := block_lt_of_cell BGc0
    clear Pc0' Pc1' BWc0' BWc1' Cc0' Cc1' BGc0' BGc1'
    have W0' := Lib.hid (by first | exact W0.out.below hb | exact W0.out.over hb | exact W0.out.below (below_undrew hb))
    clear W0
    have W0 := W0'
    clear W0'
    have G0' := Lib.hid (by first | exact G0.out.below hb | exact G0.out.over hb | exact G0.out.below (below_undrew hb))
    clear G0
    have G0 := G0'
    clear G0'
    have X9' := Lib.hid (by first | exact X9.out.below hb | exact X9.out.over hb | exact X9.out.below (below_undrew hb))
    clear X9
    have X9 := X9'
    clear X9'
    have bel' : Below w.heap.size w w14 := bel.trans ((by first | exact hb | exact over_alloc hb | exact below_undrew hb : Below w13.heap.size w13 w14).mono bel.size)
    clear bel hb
    have bel := bel'
    clear bel'
    have H0 := Lib.hid own
    obtain ⟨A14, n14, c14, rfl, -, -, -⟩ := own
    clear X9 X9r
    go_wp2_with fail
    refine (eq_lab _ _ (starsL l).1 (starsL l).1 _ (by first | exact H0.out.rd | exact H0.out.rd.alloc _) (by first | exact W0.out.rd | exact W0.out.rd.alloc _)).mono ?_
    rintro e w15 ⟨rfl, hb⟩
    have sz15 : w14.heap.size + 1 ≤ w15.heap.size := by have := hb.size; simpa using this
    have Pc0' : w15.cell? ⟨w.heap.size, 0, none⟩ = some (.int .i64 l.base) := (hb.cell (by simp; omega)).trans (by first | exact Pc0 | (simp [go_sem, Pz, Pc0]; done))
    have Pc1' : w15.cell? ⟨w.heap.size, 1, none⟩ = some (.slice A n c) := (hb.cell (by simp; omega)).trans (by first | exact Pc1 | (simp [go_sem, Pz, Pc1]; done))
    have BWc0' : w15.cell? ⟨w3.heap.size, 0, none⟩ = some (.int .i64 (starsL l).1.base) := (hb.cell (by simp; omega)).trans (by first | exact BWc0 | (simp [go_sem, BWz, BWc0]; done))
    have BWc1' : w15.cell? ⟨w3.heap.size, 1, none⟩ = some (.slice A3 n3 c3) := (hb.cell (by simp; omega)).trans (by first | exact BWc1 | (simp [go_sem, BWz, BWc1]; done))
    have Cc0' : w15.cell? ⟨w4.heap.size, 0, none⟩ = some (.int .i64 l.base) := (hb.cell (by simp; omega)).trans (by first | exact Cc0 | (simp [go_sem, Cz, Cc0]; done))
    have Cc1' : w15.cell? ⟨w4.heap.size, 1, none⟩ = some (.slice A4 n4 c4) := (hb.cell (by simp; omega)).trans (by first | exact Cc1 | (simp [go_sem, Cz, Cc1]; done))
    have BGc0' : w15.cell? ⟨w5.heap.size, 0, none⟩ = some (.int .i64 (starsL l).1.base) := (hb.cell (by simp; omega)).trans (by first | exact BGc0 | (simp [go_sem, BGz, BGc0]; done))
    have BGc1' : w15.cell? ⟨w5.heap.size, 1, none⟩ = some (.slice A5 n5 c5) := (hb.cell (by simp; omega)).trans (by first | exact BGc1 | (simp [go_sem, BGz, BGc1]; done))
    clear Pc0 Pc1 BWc0 BWc1 Cc0 Cc1 BGc0 BGc1 Pz BWz Cz BGz
    have Pc0 := Pc0'
    have Pc1 := Pc1'
    have Pz := block_lt_of_cell Pc0
    have BWc0 := BWc0'
    have BWc1 := BWc1'
    have BWz := block_lt_of_cell BWc0
    have Cc0 := Cc0'
    have Cc1 := Cc1'
    have Cz := block_lt_of_cell Cc0
    have BGc0 := BGc0'
    have BGc1 := BGc1'
    have BGz := block_lt_of_cell BGc0
    clear Pc0' Pc1' BWc0' BWc1' Cc0' Cc1' BGc0' BGc1'
    have BHc0 : w15.cell? ⟨w14.heap.size, 0, none⟩ = some (.int .i64 (starsL l).1.base) := (hb.cell (by simp)).trans (World.cell?_alloc_new _ _ _ 0)
    have BHc1 : w15.cell? ⟨w14.heap.size, 1, none⟩ = some (.slice A14 n14 c14) := (hb.cell (by simp)).trans (World.cell?_alloc_new _ _ _ 1)
    have BHz := block_lt_of_cell BHc0
    have W0' := Lib.hid (by first | exact W0.out.below hb | exact W0.out.over hb | exact W0.out.below (below_undrew hb))
    clear W0
    have W0 := W0'
    clear W0'
    have G0' := Lib.hid (by first | exact G0.out.below hb | exact G0.out.over hb | exact G0.out.below (below_undrew hb))
    clear G0
    have G0 := G0'
    clear G0'
    have H0' := Lib.hid (by first | exact H0.out.below hb | exact H0.out.over hb | exact H0.out.below (below_undrew hb))
    clear H0
    have H0 := H0'
    clear H0'
    have bel' : Below w.heap.size w w15 := bel.trans ((by first | exact hb | exact over_alloc hb | exact below_undrew hb : Below w14.heap.size w14 w15).mono bel.size)
    clear bel hb
    have bel := bel'
    clear bel'
    go_wp2_with fail
    refine (held_lab _ (starsL l).1 1 _ (by omega) (by omega) G0.out.rd).mono ?_
    rintro e w16 ⟨rfl, hb⟩
    have sz16 : w15.heap.size ≤ w16.heap.size := by have := hb.size; simpa using this
    have Pc0' : w16.cell? ⟨w.heap.size, 0, none⟩ = some (.int .i64 l.base) := (hb.cell (by simp; omega)).trans (by first | exact Pc0 | (simp [go_sem, Pz, Pc0]; done))
    have Pc1' : w16.cell? ⟨w.heap.size, 1, none⟩ = some (.slice A n c) := (hb.cell (by simp; omega)).trans (by first | exact Pc1 | (simp [go_sem, Pz, Pc1]; done))
    have BWc0' : w16.cell? ⟨w3.heap.size, 0, none⟩ = some (.int .i64 (starsL l).1.base) := (hb.cell (by simp; omega)).trans (by first | exact BWc0 | (simp [go_sem, BWz, BWc0]; done))
    have BWc1' : w16.cell? ⟨w3.heap.size, 1, none⟩ = some (.slice A3 n3 c3) := (hb.cell (by simp; omega)).trans (by first | exact BWc1 | (simp [go_sem, BWz, BWc1]; done))
    have Cc0' : w16.cell? ⟨w4.heap.size, 0, none⟩ = some (.int .i64 l.base) := (hb.cell (by simp; omega)).trans (by first | exact Cc0 | (simp [go_sem, Cz, Cc0]; done))
    have Cc1' : w16.cell? ⟨w4.heap.size, 1, none⟩ = some (.slice A4 n4 c4) := (hb.cell (by simp; omega)).trans (by first | exact Cc1 | (simp [go_sem, Cz, Cc1]; done))
    have BGc0' : w16.cell? ⟨w5.heap.size, 0, none⟩ = some (.int .i64 (starsL l).1.base) := (hb.cell (by simp; omega)).trans (by first | exact BGc0 | (simp [go_sem, BGz, BGc0]; done))
    have BGc1' : w16.cell? ⟨w5.heap.size, 1, none⟩ = some (.slice A5 n5 c5) := (hb.cell (by simp; omega)).trans (by first | exact BGc1 | (simp [go_sem, BGz, BGc1]; done))
    have BHc0' : w16.cell? ⟨w14.heap.size, 0, none⟩ = some (.int .i64 (starsL l).1.base) := (hb.cell (by simp; omega)).trans (by first | exact BHc0 | (simp [go_sem, BHz, BHc0]; done))
    have BHc1' : w16.cell? ⟨w14.heap.size, 1, none⟩ = some (.slice A14 n14 c14) := (hb.cell (by simp; omega)).trans (by first | exact BHc1 | (simp [go_sem, BHz, BHc1]; done))
    clear Pc0 Pc1 BWc0 BWc1 Cc0 Cc1 BGc0 BGc1 BHc0 BHc1 Pz BWz Cz BGz BHz
    have Pc0 := Pc0'
    have Pc1 := Pc1'
    have Pz := block_lt_of_cell Pc0
    have BWc0 := BWc0'
    have BWc1 := BWc1'
    have BWz := block_lt_of_cell BWc0
    have Cc0 := Cc0'
    have Cc1 := Cc1'
    have Cz := block_lt_of_cell Cc0
    have BGc0 := BGc0'
    have BGc1 := BGc1'
    have BGz := block_lt_of_cell BGc0
    have BHc0 := BHc0'
    have BHc1 := BHc1'
    have BHz := block_lt_of_cell BHc0
    clear Pc0' Pc1' BWc0' BWc1' Cc0' Cc1' BGc0' BGc1' BHc0' BHc1'
    have W0' := Lib.hid (by first | exact W0.out.below hb | exact W0.out.over hb | exact W0.out.below (below_undrew hb))
    clear W0
    have W0 := W0'
    clear W0'
    have G0' := Lib.hid (by first | exact G0.out.below hb | exact G0.out.over hb | exact G0.out.below (below_undrew hb))
    clear G0
    have G0 := G0'
    clear G0'
    have H0' := Lib.hid (by first | exact H0.out.below hb | exact H0.out.over hb | exact H0.out.below (below_undrew hb))
    clear H0
    have H0 := H0'
    clear H0'
    have bel' : Below w.heap.size w w16 := bel.trans ((by first | exact hb | exact over_alloc hb | exact below_undrew hb : Below w15.heap.size w15 w16).mono bel.size)
    clear bel hb
    have bel := bel'
    clear bel'
    go_wp2
    go_ret
    exact ⟨rfl, bel⟩
  · clear hn0 g0
    go_enter Try.func4, Try.ntmps4
    go_wp2_with fail
    refine (sz_lab_no _ _ _ _ _ _ (by omega) (by omega) (by omega) (by omega)).mono ?_
    rintro e w1 ⟨rfl, hb⟩
    go_wp2
    go_ret
    exact ⟨rfl, (box2 hb).2.2.2⟩

set_option maxRecDepth 100000 in
theorem lifted (os : Os) (started : os.Started) (H : Type) (enc : TypeId × Value → H) :
    ReturnsInHanded {} Try.checked os 4 .any (Rows.fnExactStarsSpec.pre6 enc Try.prog Try.f4 Rows.fnExactStarsRow.domain false) (Rows.fnExactStarsSpec.post enc Try.prog Try.f4 false true false false) := by
  refine returnsInHanded_of_change (C := Try.checked) own started (by kernel_rfl) Try.func4
    (ChangeSpec.witness6 (enc := enc) (C := Try.checked) false ⟨#[], #[.agg #[.int .i64 0, .slice none 0 0]], []⟩ 8 (by kernel_rfl) (by kernel_rfl) (by kernel_rfl) (by kernel_rfl)) ?_
  intro W base args ds gs before hval0 hW hcnd _
  have hval : ∀ (j : Nat) t v, Try.f4.params[j]? = some t → args[j]? = some v → Value.okWide Try.prog W .any base t v := hval0
  have hW' := hW
  obtain ⟨p, q, hA0, hV, rfl, hfz, hnd⟩ := hW
  have hA : DataW.TrodAll enc Try.prog W 0 (fun _ => true) true Try.f4.params.toList args.toList ds p := hA0
  rw [Try.params4] at hA hval
  obtain ⟨v0, vs0, d0, ds0, p0, q0, hargs, rfl, rfl, h0, r0⟩ := trodAll_cons hA
  obtain ⟨rfl, rfl, rfl⟩ := trodAll_nil r0
  obtain rfl : args = #[v0] := by cases args; simp_all
  obtain ⟨rfl, rfl⟩ := trodVars_none hV
  have k0 := h0
  have lt0 : ∀ x ∈ p0, x.block < W.heap.size := by obtain ⟨m, hm⟩ := k0; exact DataW.trod_lt m _ _ _ hm
  obtain ⟨l0, hl0⟩ := open_lab (hval 0 40 v0 rfl rfl) h0
  clear hA0 hval0
  refine (walk v0 l0 hl0 (w := W)).mono fun e W' ⟨he, bel⟩ => ?_
  subst he
  exact ⟨_, rfl, _, _, _, [], _, [], hW', (trodAll_cons_mk (shut_bool Try.underlying4 _) trodAll_mk0), (trodAll_cons_mk (Below.trod laidOut (by kernel_rfl) (of_decide_eq_true (by kernel_rfl)) k0 bel lt0) trodAll_mk0), rfl, bel.frame _, fun h => by cases h⟩

theorem said : Rows.FnExactStarsSaid :=
  OpenClaim.holds_of_wide 4 Try.f4 rfl rfl rfl rfl rfl rfl rfl ⟨rfl, rfl, rfl, rfl, rfl⟩ rfl rfl rfl rfl rfl (by kernel_rfl) Try.func4 (by kernel_rfl)
    (of_decide_eq_true (by kernel_rfl)) (by unfold Func.isWrapper; first | (rw [if_pos (by decide +kernel)]; kernel_rfl) | (rw [if_neg (by decide +kernel)]; exact ⟨rfl, rfl⟩))
    (fun os started H enc _ => lifted os started H enc)

theorem proved : Rows.FnExactStarsSaid := said
#print axioms proved
end Go.Proofs.Ytjdnobihhkmmpaa.fnExactStars
