/-
  FnLabels: whatever the input, the law returns true and its arguments read as they did; no condition.
-/
import Derived.Test.YtobggbejkfkodaaBase
import Derived.Test.YtobggbejkfkodaaRows
import Derived.Test.YtobggbejkfkodaaHas
import Derived.Test.YtobggbejkfkodaaLike
import Derived.Test.YtobggbejkfkodaaDrawLabs3
import Derived.Test.YtobggbejkfkodaaImplLab6
import Derived.Test.YtobggbejkfkodaaImplHand
import Derived.Test.YtobggbejkfkodaaSpecLab5
import Derived.Test.YtobggbejkfkodaaLabLaws
namespace Go.Proofs.Ytobggbejkfkodaa.fnLabels
set_option maxRecDepth 100000
open Go.ChangeShapes Go.WideShapes Go.ChangeAt Go.RowKit
open Go.ChangeMaps (open_string shut_string)
set_option linter.unusedVariables false

theorem handlesOf_le (l m : Lab) : (handlesOf l m).length ≤ 1000 := by
  unfold handlesOf
  split
  · rename_i h
    simp only [Bool.and_eq_true] at h
    have h1 := labOk_short h.1
    have h2 := labOk_short h.2
    have h3 := handlesIn_length [] l.parts
    have h4 := handlesIn_length (handlesIn [] l.parts) m.parts
    simp at h3
    omega
  · simp

set_option maxHeartbeats 8000000 in
theorem walk {w : World} (a : Option Addr) (len cap : Nat) (zs : List Int) (w0 : IsRow .u8 w a len cap zs) :
    Calls Try.prog 8 #[.slice a len cap] w fun e w' => e = .returned (.bool true) ∧ Below w.heap.size w w' := by
  by_cases hl : len ≤ 4096
  · go_enter Try.func8, Try.ntmps8
    have bel := Below.refl w.heap.size w
    go_wp2_with fail
    refine (big_no a len cap _ (by omega)).mono ?_
    rintro e w1 ⟨rfl, rfl⟩
    go_wp2_with fail
    refine (draw_with a len cap zs _ hl (by first | exact w0.below bel | exact w0.below (bel.alloc bel.size _) | exact w0.below ((bel.alloc bel.size _).alloc (by have := bel.size; simp; omega) _))).mono ?_
    rintro e w1 ⟨v, l, h, n, rfl, rd, -, hb⟩
    have hB : Below w.heap.size w w1 := by first | exact hb | exact hb | exact below_undrew hb
    have bel' : Below w.heap.size w w1 := below_more bel hB
    clear bel
    have bel := bel'
    clear bel'
    have RL := Lib.hid (rd)
    obtain ⟨A1, n1, c1, rfl, -⟩ := rd
    clear hb hB
    obtain ⟨x, is, hR⟩ : ∃ x is, withLabel l h n = (x, is) := ⟨_, _, rfl⟩
    have HI : Hid (∀ w1 v1, RdLab w1 v1 l → Calls Try.prog 21 #[v1, .int .i64 h, .int .i64 n] w1 (RetLab2 x is w1)) := Lib.hid (fun w1 v1 hr => by have := impl_with v1 l h n w1 hr; rw [hR] at this; exact this)
    have HS : Hid (∀ w1 v1, RdLab w1 v1 l → Calls Try.prog 20 #[v1, .int .i64 h, .int .i64 n] w1 (RetLab2 x is w1)) := Lib.hid (fun w1 v1 hr => by have := spec_with v1 l h n w1 hr; rw [hR] at this; exact this)
    have HW := Lib.hid hR
    clear hR
    go_wp2_with fail
    refine (HI.out _ _ (by first | exact RL.out | exact RL.out.alloc _ | exact (RL.out.alloc _).alloc _)).mono ?_
    rintro e w2 ⟨v2, rfl, own, hb⟩
    have hB : Below w1.heap.size w1 w2 := by first | exact over_alloc hb | exact hb | exact below_undrew hb
    have BL : Hid (Has w2 (w1.heap.size) [.int .i64 l.base, .slice A1 n1 c1]) := Lib.hid (by exact Has.new hb)
    have RL' := Lib.hid (RL.out.below hB)
    clear RL
    have RL := RL'
    clear RL'
    have bel' : Below w.heap.size w w2 := below_more bel hB
    clear bel
    have bel := bel'
    clear bel'
    have RX := Lib.hid (own.rd)
    obtain ⟨A2, n2, c2, rfl, -⟩ := own
    clear hb hB
    have BLc0 := BL.out 0 _ rfl
    have BLc1 := BL.out 1 _ rfl
    have BLz := block_lt_of_cell BLc0
    go_wp2_with fail
    refine (HS.out _ _ (by first | exact RL.out | exact RL.out.alloc _ | exact (RL.out.alloc _).alloc _)).mono ?_
    rintro e w3 ⟨v3, rfl, own, hb⟩
    clear BLc0 BLc1 BLz
    have hB : Below w2.heap.size w2 w3 := by first | exact over_alloc hb | exact hb | exact below_undrew hb
    have BX : Hid (Has w3 (w2.heap.size) [.int .i64 x.base, .slice A2 n2 c2]) := Lib.hid (by exact Has.new hb)
    have BL' := Lib.hid (BL.out.below hB)
    clear BL
    have BL := BL'
    clear BL'
    have RL' := Lib.hid (RL.out.below hB)
    clear RL
    have RL := RL'
    clear RL'
    have RX' := Lib.hid (RX.out.below hB)
    clear RX
    have RX := RX'
    clear RX'
    have bel' : Below w.heap.size w w3 := below_more bel hB
    clear bel
    have bel := bel'
    clear bel'
    have RY := Lib.hid (own.rd)
    obtain ⟨A3, n3, c3, rfl, -⟩ := own
    clear hb hB
    clear HI HS
    go_wp2_with fail
    refine (draw_labok a len cap zs _ hl (by first | exact w0.below bel | exact w0.below (bel.alloc bel.size _) | exact w0.below ((bel.alloc bel.size _).alloc (by have := bel.size; simp; omega) _))).mono ?_
    rintro e w4 ⟨v4, k, rfl, rd, -, hb⟩
    have hB : Below w3.heap.size w3 w4 := by first | exact over_alloc hb | exact hb | exact below_undrew hb
    have BY : Hid (Has w4 (w3.heap.size) [.int .i64 x.base, .slice A3 n3 c3]) := Lib.hid (by exact Has.new hb)
    have BL' := Lib.hid (BL.out.below hB)
    clear BL
    have BL := BL'
    clear BL'
    have BX' := Lib.hid (BX.out.below hB)
    clear BX
    have BX := BX'
    clear BX'
    have RL' := Lib.hid (RL.out.below hB)
    clear RL
    have RL := RL'
    clear RL'
    have RX' := Lib.hid (RX.out.below hB)
    clear RX
    have RX := RX'
    clear RX'
    have RY' := Lib.hid (RY.out.below hB)
    clear RY
    have RY := RY'
    clear RY'
    have bel' : Below w.heap.size w w4 := below_more bel hB
    clear bel
    have bel := bel'
    clear bel'
    have RK := Lib.hid (rd)
    obtain ⟨A4, n4, c4, rfl, -⟩ := rd
    clear hb hB
    go_wp2_with fail
    refine (draw_levelof a len cap zs _ hl (by first | exact w0.below bel | exact w0.below (bel.alloc bel.size _) | exact w0.below ((bel.alloc bel.size _).alloc (by have := bel.size; simp; omega) _))).mono ?_
    rintro e w5 ⟨v5, m, g, rfl, own, -, hb⟩
    have hB : Below w4.heap.size w4 w5 := by first | exact over_alloc hb | exact hb | exact below_undrew hb
    have BK : Hid (Has w5 (w4.heap.size) [.int .i64 k.base, .slice A4 n4 c4]) := Lib.hid (by exact Has.new hb)
    have BL' := Lib.hid (BL.out.below hB)
    clear BL
    have BL := BL'
    clear BL'
    have BX' := Lib.hid (BX.out.below hB)
    clear BX
    have BX := BX'
    clear BX'
    have BY' := Lib.hid (BY.out.below hB)
    clear BY
    have BY := BY'
    clear BY'
    have RL' := Lib.hid (RL.out.below hB)
    clear RL
    have RL := RL'
    clear RL'
    have RX' := Lib.hid (RX.out.below hB)
    clear RX
    have RX := RX'
    clear RX'
    have RY' := Lib.hid (RY.out.below hB)
    clear RY
    have RY := RY'
    clear RY'
    have RK' := Lib.hid (RK.out.below hB)
    clear RK
    have RK := RK'
    clear RK'
    have bel' : Below w.heap.size w w5 := below_more bel hB
    clear bel
    have bel := bel'
    clear bel'
    have RM := Lib.hid (own.rd)
    obtain ⟨A5, n5, c5, rfl, -⟩ := own
    clear hb hB
    go_wp2_with fail
    refine (draw_handles a len cap zs _ hl (by first | exact w0.below bel | exact w0.below (bel.alloc bel.size _) | exact w0.below ((bel.alloc bel.size _).alloc (by have := bel.size; simp; omega) _))).mono ?_
    rintro e w6 ⟨v6, v7, d, f, rfl, rd, -, rf, -, hb⟩
    have hB : Below w5.heap.size w5 w6 := by first | exact over_alloc hb | exact hb | exact below_undrew hb
    have BM : Hid (Has w6 (w5.heap.size) [.int .i64 m.base, .slice A5 n5 c5]) := Lib.hid (by exact Has.new hb)
    have BL' := Lib.hid (BL.out.below hB)
    clear BL
    have BL := BL'
    clear BL'
    have BX' := Lib.hid (BX.out.below hB)
    clear BX
    have BX := BX'
    clear BX'
    have BY' := Lib.hid (BY.out.below hB)
    clear BY
    have BY := BY'
    clear BY'
    have BK' := Lib.hid (BK.out.below hB)
    clear BK
    have BK := BK'
    clear BK'
    have RL' := Lib.hid (RL.out.below hB)
    clear RL
    have RL := RL'
    clear RL'
    have RX' := Lib.hid (RX.out.below hB)
    clear RX
    have RX := RX'
    clear RX'
    have RY' := Lib.hid (RY.out.below hB)
    clear RY
    have RY := RY'
    clear RY'
    have RK' := Lib.hid (RK.out.below hB)
    clear RK
    have RK := RK'
    clear RK'
    have RM' := Lib.hid (RM.out.below hB)
    clear RM
    have RM := RM'
    clear RM'
    have bel' : Below w.heap.size w w6 := below_more bel hB
    clear bel
    have bel := bel'
    clear bel'
    have RD := Lib.hid (rd)
    have RF := Lib.hid (rf)
    obtain ⟨A6, n6, c6, rfl, -⟩ := rd
    obtain ⟨A7, n7, c7, rfl, -⟩ := rf
    clear hb hB
    go_wp2_with fail
    refine (draw_plain a len cap zs _ hl (by first | exact w0.below bel | exact w0.below (bel.alloc bel.size _) | exact w0.below ((bel.alloc bel.size _).alloc (by have := bel.size; simp; omega) _))).mono ?_
    rintro e w7 ⟨p, rfl, hb⟩
    have hB : Below w6.heap.size w6 w7 := by first | exact over_alloc (over_alloc hb) | exact hb | exact below_undrew hb
    have BD : Hid (Has w7 (w6.heap.size) [.int .i64 d.base, .slice A6 n6 c6]) := Lib.hid (by exact Has.new2 hb)
    have BF : Hid (Has w7 (w6.heap.size + 1) [.int .i64 f.base, .slice A7 n7 c7]) := Lib.hid (by exact Has.new3 hb)
    have BL' := Lib.hid (BL.out.below hB)
    clear BL
    have BL := BL'
    clear BL'
    have BX' := Lib.hid (BX.out.below hB)
    clear BX
    have BX := BX'
    clear BX'
    have BY' := Lib.hid (BY.out.below hB)
    clear BY
    have BY := BY'
    clear BY'
    have BK' := Lib.hid (BK.out.below hB)
    clear BK
    have BK := BK'
    clear BK'
    have BM' := Lib.hid (BM.out.below hB)
    clear BM
    have BM := BM'
    clear BM'
    have RL' := Lib.hid (RL.out.below hB)
    clear RL
    have RL := RL'
    clear RL'
    have RX' := Lib.hid (RX.out.below hB)
    clear RX
    have RX := RX'
    clear RX'
    have RY' := Lib.hid (RY.out.below hB)
    clear RY
    have RY := RY'
    clear RY'
    have RK' := Lib.hid (RK.out.below hB)
    clear RK
    have RK := RK'
    clear RK'
    have RM' := Lib.hid (RM.out.below hB)
    clear RM
    have RM := RM'
    clear RM'
    have RD' := Lib.hid (RD.out.below hB)
    clear RD
    have RD := RD'
    clear RD'
    have RF' := Lib.hid (RF.out.below hB)
    clear RF
    have RF := RF'
    clear RF'
    have bel' : Below w.heap.size w w7 := below_more bel hB
    clear bel
    have bel := bel'
    clear bel'
    clear hb hB
    have BXc0 := BX.out 0 _ rfl
    have BXc1 := BX.out 1 _ rfl
    have BXz := block_lt_of_cell BXc0
    have BYc0 := BY.out 0 _ rfl
    have BYc1 := BY.out 1 _ rfl
    have BYz := block_lt_of_cell BYc0
    have BKc0 := BK.out 0 _ rfl
    have BKc1 := BK.out 1 _ rfl
    have BKz := block_lt_of_cell BKc0
    have BMc0 := BM.out 0 _ rfl
    have BMc1 := BM.out 1 _ rfl
    have BMz := block_lt_of_cell BMc0
    have BDc0 := BD.out 0 _ rfl
    have BDc1 := BD.out 1 _ rfl
    have BDz := block_lt_of_cell BDc0
    have BFc0 := BF.out 0 _ rfl
    have BFc1 := BF.out 1 _ rfl
    have BFz := block_lt_of_cell BFc0
    have HC : Hid (Below w7.heap.size w7 w7) := Lib.hid (.refl _ _)
    have hlen := Lib.hid (handlesOf_le d f)
    go_wp2
    go_region_held3 (fun w' => w'.cell? ⟨w2.heap.size, 0, none⟩ = some (.int .i64 x.base) ∧ w'.cell? ⟨w2.heap.size, 1, none⟩ = some (.slice A2 n2 c2) ∧ w'.cell? ⟨w3.heap.size, 0, none⟩ = some (.int .i64 x.base) ∧ w'.cell? ⟨w3.heap.size, 1, none⟩ = some (.slice A3 n3 c3) ∧ w'.cell? ⟨w4.heap.size, 0, none⟩ = some (.int .i64 k.base) ∧ w'.cell? ⟨w4.heap.size, 1, none⟩ = some (.slice A4 n4 c4) ∧ w'.cell? ⟨w5.heap.size, 0, none⟩ = some (.int .i64 m.base) ∧ w'.cell? ⟨w5.heap.size, 1, none⟩ = some (.slice A5 n5 c5) ∧ w'.cell? ⟨w6.heap.size, 0, none⟩ = some (.int .i64 d.base) ∧ w'.cell? ⟨w6.heap.size, 1, none⟩ = some (.slice A6 n6 c6) ∧ w'.cell? ⟨w6.heap.size + 1, 0, none⟩ = some (.int .i64 f.base) ∧ w'.cell? ⟨w6.heap.size + 1, 1, none⟩ = some (.slice A7 n7 c7))
      (first | exact ⟨f0, f1, f2, f3, f4, f5, f6, f7, f8, f9, f10, f11⟩ | go_keep)
      (first
      | (go_at_call_of 33 (Value.agg #[Value.int IntKind.i64 x.base, Value.slice A2 n2 c2])
         refine (like_lab _ _ x _ (by first | exact RX.out.below HC.out | exact (RX.out.below HC.out).drew) (by first | exact RY.out.below HC.out | exact (RY.out.below HC.out).drew)).mono ?_
         rintro e wn ⟨rfl, hb⟩
         have HC' : Hid (Below w7.heap.size w7 wn) := Lib.hid (by first | exact below_more HC.out hb | exact below_more HC.out (below_undrew hb))
         clear HC
         have HC := HC'
         clear HC'
         try clear f0 f1 f2 f3 f4 f5 f6 f7 f8 f9 f10 f11
         have f0 : wn.cell? ⟨w2.heap.size, 0, none⟩ = some (.int .i64 x.base) := BX.out.below HC.out 0 _ rfl
         have f1 : wn.cell? ⟨w2.heap.size, 1, none⟩ = some (.slice A2 n2 c2) := BX.out.below HC.out 1 _ rfl
         have f2 : wn.cell? ⟨w3.heap.size, 0, none⟩ = some (.int .i64 x.base) := BY.out.below HC.out 0 _ rfl
         have f3 : wn.cell? ⟨w3.heap.size, 1, none⟩ = some (.slice A3 n3 c3) := BY.out.below HC.out 1 _ rfl
         have f4 : wn.cell? ⟨w4.heap.size, 0, none⟩ = some (.int .i64 k.base) := BK.out.below HC.out 0 _ rfl
         have f5 : wn.cell? ⟨w4.heap.size, 1, none⟩ = some (.slice A4 n4 c4) := BK.out.below HC.out 1 _ rfl
         have f6 : wn.cell? ⟨w5.heap.size, 0, none⟩ = some (.int .i64 m.base) := BM.out.below HC.out 0 _ rfl
         have f7 : wn.cell? ⟨w5.heap.size, 1, none⟩ = some (.slice A5 n5 c5) := BM.out.below HC.out 1 _ rfl
         have f8 : wn.cell? ⟨w6.heap.size, 0, none⟩ = some (.int .i64 d.base) := BD.out.below HC.out 0 _ rfl
         have f9 : wn.cell? ⟨w6.heap.size, 1, none⟩ = some (.slice A6 n6 c6) := BD.out.below HC.out 1 _ rfl
         have f10 : wn.cell? ⟨w6.heap.size + 1, 0, none⟩ = some (.int .i64 f.base) := BF.out.below HC.out 0 _ rfl
         have f11 : wn.cell? ⟨w6.heap.size + 1, 1, none⟩ = some (.slice A7 n7 c7) := BF.out.below HC.out 1 _ rfl
         try (have QP := Lib.hid (QP.out.below (by first | exact hb | exact below_undrew hb)))
         try (have QS := Lib.hid (QS.out.below (by first | exact hb | exact below_undrew hb)))
         try (have QG := Lib.hid (At.below QG.out (by first | exact hb | exact below_undrew hb)))
         try (have QW := Lib.hid (At.below QW.out (by first | exact hb | exact below_undrew hb)))
         clear hb)
      | (go_at_call 12
         refine (impl_labok _ k _ (by first | exact RK.out.below HC.out | exact (RK.out.below HC.out).drew)).mono ?_
         rintro e wn ⟨rfl, hb⟩
         have HC' : Hid (Below w7.heap.size w7 wn) := Lib.hid (by first | exact below_more HC.out hb | exact below_more HC.out (below_undrew hb))
         clear HC
         have HC := HC'
         clear HC'
         try clear f0 f1 f2 f3 f4 f5 f6 f7 f8 f9 f10 f11
         have f0 : wn.cell? ⟨w2.heap.size, 0, none⟩ = some (.int .i64 x.base) := BX.out.below HC.out 0 _ rfl
         have f1 : wn.cell? ⟨w2.heap.size, 1, none⟩ = some (.slice A2 n2 c2) := BX.out.below HC.out 1 _ rfl
         have f2 : wn.cell? ⟨w3.heap.size, 0, none⟩ = some (.int .i64 x.base) := BY.out.below HC.out 0 _ rfl
         have f3 : wn.cell? ⟨w3.heap.size, 1, none⟩ = some (.slice A3 n3 c3) := BY.out.below HC.out 1 _ rfl
         have f4 : wn.cell? ⟨w4.heap.size, 0, none⟩ = some (.int .i64 k.base) := BK.out.below HC.out 0 _ rfl
         have f5 : wn.cell? ⟨w4.heap.size, 1, none⟩ = some (.slice A4 n4 c4) := BK.out.below HC.out 1 _ rfl
         have f6 : wn.cell? ⟨w5.heap.size, 0, none⟩ = some (.int .i64 m.base) := BM.out.below HC.out 0 _ rfl
         have f7 : wn.cell? ⟨w5.heap.size, 1, none⟩ = some (.slice A5 n5 c5) := BM.out.below HC.out 1 _ rfl
         have f8 : wn.cell? ⟨w6.heap.size, 0, none⟩ = some (.int .i64 d.base) := BD.out.below HC.out 0 _ rfl
         have f9 : wn.cell? ⟨w6.heap.size, 1, none⟩ = some (.slice A6 n6 c6) := BD.out.below HC.out 1 _ rfl
         have f10 : wn.cell? ⟨w6.heap.size + 1, 0, none⟩ = some (.int .i64 f.base) := BF.out.below HC.out 0 _ rfl
         have f11 : wn.cell? ⟨w6.heap.size + 1, 1, none⟩ = some (.slice A7 n7 c7) := BF.out.below HC.out 1 _ rfl
         try (have QP := Lib.hid (QP.out.below (by first | exact hb | exact below_undrew hb)))
         try (have QS := Lib.hid (QS.out.below (by first | exact hb | exact below_undrew hb)))
         try (have QG := Lib.hid (At.below QG.out (by first | exact hb | exact below_undrew hb)))
         try (have QW := Lib.hid (At.below QW.out (by first | exact hb | exact below_undrew hb)))
         clear hb)
      | (go_at_call 10
         refine (spec_labok _ k _ (by first | exact RK.out.below HC.out | exact (RK.out.below HC.out).drew)).mono ?_
         rintro e wn ⟨rfl, hb⟩
         have HC' : Hid (Below w7.heap.size w7 wn) := Lib.hid (by first | exact below_more HC.out hb | exact below_more HC.out (below_undrew hb))
         clear HC
         have HC := HC'
         clear HC'
         try clear f0 f1 f2 f3 f4 f5 f6 f7 f8 f9 f10 f11
         have f0 : wn.cell? ⟨w2.heap.size, 0, none⟩ = some (.int .i64 x.base) := BX.out.below HC.out 0 _ rfl
         have f1 : wn.cell? ⟨w2.heap.size, 1, none⟩ = some (.slice A2 n2 c2) := BX.out.below HC.out 1 _ rfl
         have f2 : wn.cell? ⟨w3.heap.size, 0, none⟩ = some (.int .i64 x.base) := BY.out.below HC.out 0 _ rfl
         have f3 : wn.cell? ⟨w3.heap.size, 1, none⟩ = some (.slice A3 n3 c3) := BY.out.below HC.out 1 _ rfl
         have f4 : wn.cell? ⟨w4.heap.size, 0, none⟩ = some (.int .i64 k.base) := BK.out.below HC.out 0 _ rfl
         have f5 : wn.cell? ⟨w4.heap.size, 1, none⟩ = some (.slice A4 n4 c4) := BK.out.below HC.out 1 _ rfl
         have f6 : wn.cell? ⟨w5.heap.size, 0, none⟩ = some (.int .i64 m.base) := BM.out.below HC.out 0 _ rfl
         have f7 : wn.cell? ⟨w5.heap.size, 1, none⟩ = some (.slice A5 n5 c5) := BM.out.below HC.out 1 _ rfl
         have f8 : wn.cell? ⟨w6.heap.size, 0, none⟩ = some (.int .i64 d.base) := BD.out.below HC.out 0 _ rfl
         have f9 : wn.cell? ⟨w6.heap.size, 1, none⟩ = some (.slice A6 n6 c6) := BD.out.below HC.out 1 _ rfl
         have f10 : wn.cell? ⟨w6.heap.size + 1, 0, none⟩ = some (.int .i64 f.base) := BF.out.below HC.out 0 _ rfl
         have f11 : wn.cell? ⟨w6.heap.size + 1, 1, none⟩ = some (.slice A7 n7 c7) := BF.out.below HC.out 1 _ rfl
         try (have QP := Lib.hid (QP.out.below (by first | exact hb | exact below_undrew hb)))
         try (have QS := Lib.hid (QS.out.below (by first | exact hb | exact below_undrew hb)))
         try (have QG := Lib.hid (At.below QG.out (by first | exact hb | exact below_undrew hb)))
         try (have QW := Lib.hid (At.below QW.out (by first | exact hb | exact below_undrew hb)))
         clear hb)
      | (go_at_call 19
         refine (impl_levelof _ m g _ (by first | exact RM.out.below HC.out | exact (RM.out.below HC.out).drew)).mono ?_
         rintro e wn ⟨rfl, hb⟩
         have HC' : Hid (Below w7.heap.size w7 wn) := Lib.hid (by first | exact below_more HC.out hb | exact below_more HC.out (below_undrew hb))
         clear HC
         have HC := HC'
         clear HC'
         try clear f0 f1 f2 f3 f4 f5 f6 f7 f8 f9 f10 f11
         have f0 : wn.cell? ⟨w2.heap.size, 0, none⟩ = some (.int .i64 x.base) := BX.out.below HC.out 0 _ rfl
         have f1 : wn.cell? ⟨w2.heap.size, 1, none⟩ = some (.slice A2 n2 c2) := BX.out.below HC.out 1 _ rfl
         have f2 : wn.cell? ⟨w3.heap.size, 0, none⟩ = some (.int .i64 x.base) := BY.out.below HC.out 0 _ rfl
         have f3 : wn.cell? ⟨w3.heap.size, 1, none⟩ = some (.slice A3 n3 c3) := BY.out.below HC.out 1 _ rfl
         have f4 : wn.cell? ⟨w4.heap.size, 0, none⟩ = some (.int .i64 k.base) := BK.out.below HC.out 0 _ rfl
         have f5 : wn.cell? ⟨w4.heap.size, 1, none⟩ = some (.slice A4 n4 c4) := BK.out.below HC.out 1 _ rfl
         have f6 : wn.cell? ⟨w5.heap.size, 0, none⟩ = some (.int .i64 m.base) := BM.out.below HC.out 0 _ rfl
         have f7 : wn.cell? ⟨w5.heap.size, 1, none⟩ = some (.slice A5 n5 c5) := BM.out.below HC.out 1 _ rfl
         have f8 : wn.cell? ⟨w6.heap.size, 0, none⟩ = some (.int .i64 d.base) := BD.out.below HC.out 0 _ rfl
         have f9 : wn.cell? ⟨w6.heap.size, 1, none⟩ = some (.slice A6 n6 c6) := BD.out.below HC.out 1 _ rfl
         have f10 : wn.cell? ⟨w6.heap.size + 1, 0, none⟩ = some (.int .i64 f.base) := BF.out.below HC.out 0 _ rfl
         have f11 : wn.cell? ⟨w6.heap.size + 1, 1, none⟩ = some (.slice A7 n7 c7) := BF.out.below HC.out 1 _ rfl
         try (have QP := Lib.hid (QP.out.below (by first | exact hb | exact below_undrew hb)))
         try (have QS := Lib.hid (QS.out.below (by first | exact hb | exact below_undrew hb)))
         try (have QG := Lib.hid (At.below QG.out (by first | exact hb | exact below_undrew hb)))
         try (have QW := Lib.hid (At.below QW.out (by first | exact hb | exact below_undrew hb)))
         clear hb)
      | (go_at_call 18
         refine (spec_levelof _ m g _ (by first | exact RM.out.below HC.out | exact (RM.out.below HC.out).drew)).mono ?_
         rintro e wn ⟨rfl, hb⟩
         have HC' : Hid (Below w7.heap.size w7 wn) := Lib.hid (by first | exact below_more HC.out hb | exact below_more HC.out (below_undrew hb))
         clear HC
         have HC := HC'
         clear HC'
         try clear f0 f1 f2 f3 f4 f5 f6 f7 f8 f9 f10 f11
         have f0 : wn.cell? ⟨w2.heap.size, 0, none⟩ = some (.int .i64 x.base) := BX.out.below HC.out 0 _ rfl
         have f1 : wn.cell? ⟨w2.heap.size, 1, none⟩ = some (.slice A2 n2 c2) := BX.out.below HC.out 1 _ rfl
         have f2 : wn.cell? ⟨w3.heap.size, 0, none⟩ = some (.int .i64 x.base) := BY.out.below HC.out 0 _ rfl
         have f3 : wn.cell? ⟨w3.heap.size, 1, none⟩ = some (.slice A3 n3 c3) := BY.out.below HC.out 1 _ rfl
         have f4 : wn.cell? ⟨w4.heap.size, 0, none⟩ = some (.int .i64 k.base) := BK.out.below HC.out 0 _ rfl
         have f5 : wn.cell? ⟨w4.heap.size, 1, none⟩ = some (.slice A4 n4 c4) := BK.out.below HC.out 1 _ rfl
         have f6 : wn.cell? ⟨w5.heap.size, 0, none⟩ = some (.int .i64 m.base) := BM.out.below HC.out 0 _ rfl
         have f7 : wn.cell? ⟨w5.heap.size, 1, none⟩ = some (.slice A5 n5 c5) := BM.out.below HC.out 1 _ rfl
         have f8 : wn.cell? ⟨w6.heap.size, 0, none⟩ = some (.int .i64 d.base) := BD.out.below HC.out 0 _ rfl
         have f9 : wn.cell? ⟨w6.heap.size, 1, none⟩ = some (.slice A6 n6 c6) := BD.out.below HC.out 1 _ rfl
         have f10 : wn.cell? ⟨w6.heap.size + 1, 0, none⟩ = some (.int .i64 f.base) := BF.out.below HC.out 0 _ rfl
         have f11 : wn.cell? ⟨w6.heap.size + 1, 1, none⟩ = some (.slice A7 n7 c7) := BF.out.below HC.out 1 _ rfl
         try (have QP := Lib.hid (QP.out.below (by first | exact hb | exact below_undrew hb)))
         try (have QS := Lib.hid (QS.out.below (by first | exact hb | exact below_undrew hb)))
         try (have QG := Lib.hid (At.below QG.out (by first | exact hb | exact below_undrew hb)))
         try (have QW := Lib.hid (At.below QW.out (by first | exact hb | exact below_undrew hb)))
         clear hb)
      | (go_at_call 23
         refine (impl_handlesof _ _ d f _ (by first | exact RD.out.below HC.out | exact (RD.out.below HC.out).drew) (by first | exact RF.out.below HC.out | exact (RF.out.below HC.out).drew)).mono ?_
         rintro e wn ⟨vg, rfl, own, hb⟩
         have HC' : Hid (Below w7.heap.size w7 wn) := Lib.hid (by first | exact below_more HC.out hb | exact below_more HC.out (below_undrew hb))
         clear HC
         have HC := HC'
         clear HC'
         try clear f0 f1 f2 f3 f4 f5 f6 f7 f8 f9 f10 f11
         have f0 : wn.cell? ⟨w2.heap.size, 0, none⟩ = some (.int .i64 x.base) := BX.out.below HC.out 0 _ rfl
         have f1 : wn.cell? ⟨w2.heap.size, 1, none⟩ = some (.slice A2 n2 c2) := BX.out.below HC.out 1 _ rfl
         have f2 : wn.cell? ⟨w3.heap.size, 0, none⟩ = some (.int .i64 x.base) := BY.out.below HC.out 0 _ rfl
         have f3 : wn.cell? ⟨w3.heap.size, 1, none⟩ = some (.slice A3 n3 c3) := BY.out.below HC.out 1 _ rfl
         have f4 : wn.cell? ⟨w4.heap.size, 0, none⟩ = some (.int .i64 k.base) := BK.out.below HC.out 0 _ rfl
         have f5 : wn.cell? ⟨w4.heap.size, 1, none⟩ = some (.slice A4 n4 c4) := BK.out.below HC.out 1 _ rfl
         have f6 : wn.cell? ⟨w5.heap.size, 0, none⟩ = some (.int .i64 m.base) := BM.out.below HC.out 0 _ rfl
         have f7 : wn.cell? ⟨w5.heap.size, 1, none⟩ = some (.slice A5 n5 c5) := BM.out.below HC.out 1 _ rfl
         have f8 : wn.cell? ⟨w6.heap.size, 0, none⟩ = some (.int .i64 d.base) := BD.out.below HC.out 0 _ rfl
         have f9 : wn.cell? ⟨w6.heap.size, 1, none⟩ = some (.slice A6 n6 c6) := BD.out.below HC.out 1 _ rfl
         have f10 : wn.cell? ⟨w6.heap.size + 1, 0, none⟩ = some (.int .i64 f.base) := BF.out.below HC.out 0 _ rfl
         have f11 : wn.cell? ⟨w6.heap.size + 1, 1, none⟩ = some (.slice A7 n7 c7) := BF.out.below HC.out 1 _ rfl
         try (have QP := Lib.hid (QP.out.below (by first | exact hb | exact below_undrew hb)))
         try (have QS := Lib.hid (QS.out.below (by first | exact hb | exact below_undrew hb)))
         try (have QG := Lib.hid (At.below QG.out (by first | exact hb | exact below_undrew hb)))
         try (have QW := Lib.hid (At.below QW.out (by first | exact hb | exact below_undrew hb)))
         obtain ⟨Ag, cg, rfl, -, -, hag⟩ := own_at own
         have QG := Lib.hid hag
         clear hb)
      | (go_at_call 22
         refine (spec_handlesof _ _ d f _ (by first | exact RD.out.below HC.out | exact (RD.out.below HC.out).drew) (by first | exact RF.out.below HC.out | exact (RF.out.below HC.out).drew)).mono ?_
         rintro e wn ⟨vw, rfl, own, hb⟩
         have HC' : Hid (Below w7.heap.size w7 wn) := Lib.hid (by first | exact below_more HC.out hb | exact below_more HC.out (below_undrew hb))
         clear HC
         have HC := HC'
         clear HC'
         try clear f0 f1 f2 f3 f4 f5 f6 f7 f8 f9 f10 f11
         have f0 : wn.cell? ⟨w2.heap.size, 0, none⟩ = some (.int .i64 x.base) := BX.out.below HC.out 0 _ rfl
         have f1 : wn.cell? ⟨w2.heap.size, 1, none⟩ = some (.slice A2 n2 c2) := BX.out.below HC.out 1 _ rfl
         have f2 : wn.cell? ⟨w3.heap.size, 0, none⟩ = some (.int .i64 x.base) := BY.out.below HC.out 0 _ rfl
         have f3 : wn.cell? ⟨w3.heap.size, 1, none⟩ = some (.slice A3 n3 c3) := BY.out.below HC.out 1 _ rfl
         have f4 : wn.cell? ⟨w4.heap.size, 0, none⟩ = some (.int .i64 k.base) := BK.out.below HC.out 0 _ rfl
         have f5 : wn.cell? ⟨w4.heap.size, 1, none⟩ = some (.slice A4 n4 c4) := BK.out.below HC.out 1 _ rfl
         have f6 : wn.cell? ⟨w5.heap.size, 0, none⟩ = some (.int .i64 m.base) := BM.out.below HC.out 0 _ rfl
         have f7 : wn.cell? ⟨w5.heap.size, 1, none⟩ = some (.slice A5 n5 c5) := BM.out.below HC.out 1 _ rfl
         have f8 : wn.cell? ⟨w6.heap.size, 0, none⟩ = some (.int .i64 d.base) := BD.out.below HC.out 0 _ rfl
         have f9 : wn.cell? ⟨w6.heap.size, 1, none⟩ = some (.slice A6 n6 c6) := BD.out.below HC.out 1 _ rfl
         have f10 : wn.cell? ⟨w6.heap.size + 1, 0, none⟩ = some (.int .i64 f.base) := BF.out.below HC.out 0 _ rfl
         have f11 : wn.cell? ⟨w6.heap.size + 1, 1, none⟩ = some (.slice A7 n7 c7) := BF.out.below HC.out 1 _ rfl
         try (have QP := Lib.hid (QP.out.below (by first | exact hb | exact below_undrew hb)))
         try (have QS := Lib.hid (QS.out.below (by first | exact hb | exact below_undrew hb)))
         try (have QG := Lib.hid (At.below QG.out (by first | exact hb | exact below_undrew hb)))
         try (have QW := Lib.hid (At.below QW.out (by first | exact hb | exact below_undrew hb)))
         obtain ⟨Aw, cw, rfl, -, -, haw⟩ := own_at own
         have QW := Lib.hid haw
         clear hb)
      | (go_at_call 34
         refine (like_nm Ag Aw _ cg cw (handlesOf d f) _ QG.out QW.out rfl (by have := hlen.out; omega)).mono ?_
         rintro e wn ⟨rfl, hb⟩
         have HC' : Hid (Below w7.heap.size w7 wn) := Lib.hid (by first | exact below_more HC.out hb | exact below_more HC.out (below_undrew hb))
         clear HC
         have HC := HC'
         clear HC'
         try clear f0 f1 f2 f3 f4 f5 f6 f7 f8 f9 f10 f11
         have f0 : wn.cell? ⟨w2.heap.size, 0, none⟩ = some (.int .i64 x.base) := BX.out.below HC.out 0 _ rfl
         have f1 : wn.cell? ⟨w2.heap.size, 1, none⟩ = some (.slice A2 n2 c2) := BX.out.below HC.out 1 _ rfl
         have f2 : wn.cell? ⟨w3.heap.size, 0, none⟩ = some (.int .i64 x.base) := BY.out.below HC.out 0 _ rfl
         have f3 : wn.cell? ⟨w3.heap.size, 1, none⟩ = some (.slice A3 n3 c3) := BY.out.below HC.out 1 _ rfl
         have f4 : wn.cell? ⟨w4.heap.size, 0, none⟩ = some (.int .i64 k.base) := BK.out.below HC.out 0 _ rfl
         have f5 : wn.cell? ⟨w4.heap.size, 1, none⟩ = some (.slice A4 n4 c4) := BK.out.below HC.out 1 _ rfl
         have f6 : wn.cell? ⟨w5.heap.size, 0, none⟩ = some (.int .i64 m.base) := BM.out.below HC.out 0 _ rfl
         have f7 : wn.cell? ⟨w5.heap.size, 1, none⟩ = some (.slice A5 n5 c5) := BM.out.below HC.out 1 _ rfl
         have f8 : wn.cell? ⟨w6.heap.size, 0, none⟩ = some (.int .i64 d.base) := BD.out.below HC.out 0 _ rfl
         have f9 : wn.cell? ⟨w6.heap.size, 1, none⟩ = some (.slice A6 n6 c6) := BD.out.below HC.out 1 _ rfl
         have f10 : wn.cell? ⟨w6.heap.size + 1, 0, none⟩ = some (.int .i64 f.base) := BF.out.below HC.out 0 _ rfl
         have f11 : wn.cell? ⟨w6.heap.size + 1, 1, none⟩ = some (.slice A7 n7 c7) := BF.out.below HC.out 1 _ rfl
         try (have QP := Lib.hid (QP.out.below (by first | exact hb | exact below_undrew hb)))
         try (have QS := Lib.hid (QS.out.below (by first | exact hb | exact below_undrew hb)))
         try (have QG := Lib.hid (At.below QG.out (by first | exact hb | exact below_undrew hb)))
         try (have QW := Lib.hid (At.below QW.out (by first | exact hb | exact below_undrew hb)))
         clear hb)
      | (go_at_call 15
         refine (impl_plain p _).mono ?_
         rintro e wn ⟨vp, rfl, own, hb⟩
         have HC' : Hid (Below w7.heap.size w7 wn) := Lib.hid (by first | exact below_more HC.out hb | exact below_more HC.out (below_undrew hb))
         clear HC
         have HC := HC'
         clear HC'
         try clear f0 f1 f2 f3 f4 f5 f6 f7 f8 f9 f10 f11
         have f0 : wn.cell? ⟨w2.heap.size, 0, none⟩ = some (.int .i64 x.base) := BX.out.below HC.out 0 _ rfl
         have f1 : wn.cell? ⟨w2.heap.size, 1, none⟩ = some (.slice A2 n2 c2) := BX.out.below HC.out 1 _ rfl
         have f2 : wn.cell? ⟨w3.heap.size, 0, none⟩ = some (.int .i64 x.base) := BY.out.below HC.out 0 _ rfl
         have f3 : wn.cell? ⟨w3.heap.size, 1, none⟩ = some (.slice A3 n3 c3) := BY.out.below HC.out 1 _ rfl
         have f4 : wn.cell? ⟨w4.heap.size, 0, none⟩ = some (.int .i64 k.base) := BK.out.below HC.out 0 _ rfl
         have f5 : wn.cell? ⟨w4.heap.size, 1, none⟩ = some (.slice A4 n4 c4) := BK.out.below HC.out 1 _ rfl
         have f6 : wn.cell? ⟨w5.heap.size, 0, none⟩ = some (.int .i64 m.base) := BM.out.below HC.out 0 _ rfl
         have f7 : wn.cell? ⟨w5.heap.size, 1, none⟩ = some (.slice A5 n5 c5) := BM.out.below HC.out 1 _ rfl
         have f8 : wn.cell? ⟨w6.heap.size, 0, none⟩ = some (.int .i64 d.base) := BD.out.below HC.out 0 _ rfl
         have f9 : wn.cell? ⟨w6.heap.size, 1, none⟩ = some (.slice A6 n6 c6) := BD.out.below HC.out 1 _ rfl
         have f10 : wn.cell? ⟨w6.heap.size + 1, 0, none⟩ = some (.int .i64 f.base) := BF.out.below HC.out 0 _ rfl
         have f11 : wn.cell? ⟨w6.heap.size + 1, 1, none⟩ = some (.slice A7 n7 c7) := BF.out.below HC.out 1 _ rfl
         try (have QP := Lib.hid (QP.out.below (by first | exact hb | exact below_undrew hb)))
         try (have QS := Lib.hid (QS.out.below (by first | exact hb | exact below_undrew hb)))
         try (have QG := Lib.hid (At.below QG.out (by first | exact hb | exact below_undrew hb)))
         try (have QW := Lib.hid (At.below QW.out (by first | exact hb | exact below_undrew hb)))
         have QP := Lib.hid own.rd
         obtain ⟨Ap, np, cp, rfl, -⟩ := own
         clear hb)
      | (go_at_call 14
         refine (spec_plain p _).mono ?_
         rintro e wn ⟨vs, rfl, own, hb⟩
         have HC' : Hid (Below w7.heap.size w7 wn) := Lib.hid (by first | exact below_more HC.out hb | exact below_more HC.out (below_undrew hb))
         clear HC
         have HC := HC'
         clear HC'
         try clear f0 f1 f2 f3 f4 f5 f6 f7 f8 f9 f10 f11
         have f0 : wn.cell? ⟨w2.heap.size, 0, none⟩ = some (.int .i64 x.base) := BX.out.below HC.out 0 _ rfl
         have f1 : wn.cell? ⟨w2.heap.size, 1, none⟩ = some (.slice A2 n2 c2) := BX.out.below HC.out 1 _ rfl
         have f2 : wn.cell? ⟨w3.heap.size, 0, none⟩ = some (.int .i64 x.base) := BY.out.below HC.out 0 _ rfl
         have f3 : wn.cell? ⟨w3.heap.size, 1, none⟩ = some (.slice A3 n3 c3) := BY.out.below HC.out 1 _ rfl
         have f4 : wn.cell? ⟨w4.heap.size, 0, none⟩ = some (.int .i64 k.base) := BK.out.below HC.out 0 _ rfl
         have f5 : wn.cell? ⟨w4.heap.size, 1, none⟩ = some (.slice A4 n4 c4) := BK.out.below HC.out 1 _ rfl
         have f6 : wn.cell? ⟨w5.heap.size, 0, none⟩ = some (.int .i64 m.base) := BM.out.below HC.out 0 _ rfl
         have f7 : wn.cell? ⟨w5.heap.size, 1, none⟩ = some (.slice A5 n5 c5) := BM.out.below HC.out 1 _ rfl
         have f8 : wn.cell? ⟨w6.heap.size, 0, none⟩ = some (.int .i64 d.base) := BD.out.below HC.out 0 _ rfl
         have f9 : wn.cell? ⟨w6.heap.size, 1, none⟩ = some (.slice A6 n6 c6) := BD.out.below HC.out 1 _ rfl
         have f10 : wn.cell? ⟨w6.heap.size + 1, 0, none⟩ = some (.int .i64 f.base) := BF.out.below HC.out 0 _ rfl
         have f11 : wn.cell? ⟨w6.heap.size + 1, 1, none⟩ = some (.slice A7 n7 c7) := BF.out.below HC.out 1 _ rfl
         try (have QP := Lib.hid (QP.out.below (by first | exact hb | exact below_undrew hb)))
         try (have QS := Lib.hid (QS.out.below (by first | exact hb | exact below_undrew hb)))
         try (have QG := Lib.hid (At.below QG.out (by first | exact hb | exact below_undrew hb)))
         try (have QW := Lib.hid (At.below QW.out (by first | exact hb | exact below_undrew hb)))
         have QS := Lib.hid own.rd
         obtain ⟨As, ns, cs, rfl, -⟩ := own
         clear hb)
      | (go_at_call 33
         refine (like_lab _ _ (plainL p) _ QP.out QS.out).mono ?_
         rintro e wn ⟨rfl, hb⟩
         have HC' : Hid (Below w7.heap.size w7 wn) := Lib.hid (by first | exact below_more HC.out hb | exact below_more HC.out (below_undrew hb))
         clear HC
         have HC := HC'
         clear HC'
         try clear f0 f1 f2 f3 f4 f5 f6 f7 f8 f9 f10 f11
         have f0 : wn.cell? ⟨w2.heap.size, 0, none⟩ = some (.int .i64 x.base) := BX.out.below HC.out 0 _ rfl
         have f1 : wn.cell? ⟨w2.heap.size, 1, none⟩ = some (.slice A2 n2 c2) := BX.out.below HC.out 1 _ rfl
         have f2 : wn.cell? ⟨w3.heap.size, 0, none⟩ = some (.int .i64 x.base) := BY.out.below HC.out 0 _ rfl
         have f3 : wn.cell? ⟨w3.heap.size, 1, none⟩ = some (.slice A3 n3 c3) := BY.out.below HC.out 1 _ rfl
         have f4 : wn.cell? ⟨w4.heap.size, 0, none⟩ = some (.int .i64 k.base) := BK.out.below HC.out 0 _ rfl
         have f5 : wn.cell? ⟨w4.heap.size, 1, none⟩ = some (.slice A4 n4 c4) := BK.out.below HC.out 1 _ rfl
         have f6 : wn.cell? ⟨w5.heap.size, 0, none⟩ = some (.int .i64 m.base) := BM.out.below HC.out 0 _ rfl
         have f7 : wn.cell? ⟨w5.heap.size, 1, none⟩ = some (.slice A5 n5 c5) := BM.out.below HC.out 1 _ rfl
         have f8 : wn.cell? ⟨w6.heap.size, 0, none⟩ = some (.int .i64 d.base) := BD.out.below HC.out 0 _ rfl
         have f9 : wn.cell? ⟨w6.heap.size, 1, none⟩ = some (.slice A6 n6 c6) := BD.out.below HC.out 1 _ rfl
         have f10 : wn.cell? ⟨w6.heap.size + 1, 0, none⟩ = some (.int .i64 f.base) := BF.out.below HC.out 0 _ rfl
         have f11 : wn.cell? ⟨w6.heap.size + 1, 1, none⟩ = some (.slice A7 n7 c7) := BF.out.below HC.out 1 _ rfl
         try (have QP := Lib.hid (QP.out.below (by first | exact hb | exact below_undrew hb)))
         try (have QS := Lib.hid (QS.out.below (by first | exact hb | exact below_undrew hb)))
         try (have QG := Lib.hid (At.below QG.out (by first | exact hb | exact below_undrew hb)))
         try (have QW := Lib.hid (At.below QW.out (by first | exact hb | exact below_undrew hb)))
         clear hb))
    have bel' : Below w.heap.size w wn := below_more bel HC.out
    have BL' := Lib.hid (BL.out.below HC.out)
    have BX' := Lib.hid (BX.out.below HC.out)
    have RL' := Lib.hid (RL.out.below HC.out)
    have RX' := Lib.hid (RX.out.below HC.out)
    clear HC f0 f1 f2 f3 f4 f5 f6 f7 f8 f9 f10 f11 bel BL BX BY BK BM BD BF RL RX RY RK RM RD RF QP QS QG QW hlen
    clear BXc0 BXc1 BYc0 BYc1 BKc0 BKc1 BMc0 BMc1 BDc0 BDc1 BFc0 BFc1 BXz BYz BKz BMz BDz BFz
    cases is
    · go_wp2
      go_ret
      exact ⟨rfl, bel'⟩
    obtain ⟨ok1, lv1, ba1, -⟩ := withLabel_law HW.out
    obtain ⟨lo1, lo2⟩ := withLabel_levelOf HW.out
    have HO1 := Lib.hid ok1
    have HB1 := Lib.hid ba1
    have HL1 := Lib.hid lo1
    have HL2 := Lib.hid lo2
    have hlx := Lib.hid (handlesOf_le l x)
    clear ok1 lv1 ba1 lo1 lo2 HW
    have BLc0 := BL'.out 0 _ rfl
    have BLc1 := BL'.out 1 _ rfl
    have BXc0 := BX'.out 0 _ rfl
    have BXc1 := BX'.out 1 _ rfl
    go_wp2_with fail
    refine (spec_handlesof _ _ l x _ RL'.out RX'.out).mono ?_
    rintro e w9 ⟨v9, rfl, own9, hb9⟩
    obtain ⟨A9, c9, rfl, -, -, ha9⟩ := own_at own9
    obtain ⟨N, hN⟩ : ∃ N, N = (handlesOf l x).length := ⟨_, rfl⟩
    have HN : Hid ((handlesOf l x).length = N) := Lib.hid hN.symm
    have hN1 : N ≤ 1000 := by have := hlx.out; omega
    rw [← hN] at own9 ⊢
    have bel9 := below_more bel' hb9
    have BL9 := Lib.hid (BL'.out.below hb9)
    have BX9 := Lib.hid (BX'.out.below hb9)
    have RL9 := Lib.hid (RL'.out.below hb9)
    have RX9 := Lib.hid (RX'.out.below hb9)
    have HA9 := Lib.hid ha9
    clear hb9 bel' BL' BX' RL' RX' BLc0 BLc1 BXc0 BXc1 own9 ha9 hN hlx
    go_wp2
    go_loopw [17] (fun i wr => ∃ k : Nat, k ≤ N ∧ i = .int .i64 k ∧ Hid (Below w9.heap.size w9 wr)) (fun i _ => N - (intOf i).toNat)
    case atStart => exact ⟨0, by omega, rfl, Lib.hid (.refl _ _)⟩
    case round =>
      obtain ⟨j, hj, rfl, HR9⟩ := hrel
      have BLc0 := BL9.out.below HR9.out 0 _ rfl
      have BLc1 := BL9.out.below HR9.out 1 _ rfl
      have BXc0 := BX9.out.below HR9.out 0 _ rfl
      have BXc1 := BX9.out.below HR9.out 1 _ rfl
      have belr := Lib.hid (below_more bel9 HR9.out)
      by_cases hlt : j < N
      · obtain ⟨b9, o9, y, rfl, -, cy⟩ := nmat (HA9.out.below HR9.out) (k := j) (by have := HN.out; omega)
        by_cases hyh : y = h
        · have hy1 : (y != h) = false := by simpa using hyh
          clear hyh
          go_wp2
          go_quiet (fail)
          go_wp2
          go_roundw
          case rel => exact ⟨j + 1, by omega, by go_num, Lib.hid (below_drewN HR9.out _)⟩
          case measure => simp [intOf]; omega
        · have hy1 : (y != h) = true := by simpa using hyh
          have HXL := Lib.hid (fun w1 v1 (hr : RdLab w1 v1 x) => (show Calls Try.prog 19 #[v1, .int .i64 y] w1 (RetV (.int .i64 (levelOf l y)) w1) by have := impl_levelof v1 x y w1 hr; rw [HL2.out y hyh] at this; exact this))
          have hqq : (levelOf l y != levelOf l y) = false := by simp
          have HC := Lib.hid (Below.refl wr.heap.size wr)
          clear hyh
          go_wp2
          go_region_held3 (fun w' => w'.cell? ⟨w1.heap.size, 0, none⟩ = some (.int .i64 l.base) ∧ w'.cell? ⟨w1.heap.size, 1, none⟩ = some (.slice A1 n1 c1) ∧ w'.cell? ⟨w2.heap.size, 0, none⟩ = some (.int .i64 x.base) ∧ w'.cell? ⟨w2.heap.size, 1, none⟩ = some (.slice A2 n2 c2) ∧ w'.cell? ⟨b9, o9 + j, none⟩ = some (.int .i64 y))
            (first | exact ⟨f0, f1, f2, f3, f4⟩ | go_keep)
            (first
            | (go_at_call_of 19 (Value.agg #[Value.int IntKind.i64 x.base, Value.slice A2 n2 c2])
               refine (HXL.out _ _ (by first | exact RX9.out.below (below_more HR9.out HC.out) | exact (RX9.out.below (below_more HR9.out HC.out)).drew)).mono ?_
               rintro e wn ⟨rfl, hb⟩
               have HC' : Hid (Below wr.heap.size wr wn) := Lib.hid (by first | exact below_more HC.out hb | exact below_more HC.out (below_undrew hb))
               clear HC
               have HC := HC'
               clear HC'
               try clear f0 f1 f2 f3 f4
               have f0 : wn.cell? ⟨w1.heap.size, 0, none⟩ = some (.int .i64 l.base) := BL9.out.below (below_more HR9.out HC.out) 0 _ rfl
               have f1 : wn.cell? ⟨w1.heap.size, 1, none⟩ = some (.slice A1 n1 c1) := BL9.out.below (below_more HR9.out HC.out) 1 _ rfl
               have f2 : wn.cell? ⟨w2.heap.size, 0, none⟩ = some (.int .i64 x.base) := BX9.out.below (below_more HR9.out HC.out) 0 _ rfl
               have f3 : wn.cell? ⟨w2.heap.size, 1, none⟩ = some (.slice A2 n2 c2) := BX9.out.below (below_more HR9.out HC.out) 1 _ rfl
               have f4 : wn.cell? ⟨b9, o9 + j, none⟩ = some (.int .i64 y) := (HC.out.cell (block_lt_of_cell cy)).trans cy
               clear hb)
            | (go_at_call_of 19 (Value.agg #[Value.int IntKind.i64 l.base, Value.slice A1 n1 c1])
               refine (impl_levelof _ l y _ (by first | exact RL9.out.below (below_more HR9.out HC.out) | exact (RL9.out.below (below_more HR9.out HC.out)).drew)).mono ?_
               rintro e wn ⟨rfl, hb⟩
               have HC' : Hid (Below wr.heap.size wr wn) := Lib.hid (by first | exact below_more HC.out hb | exact below_more HC.out (below_undrew hb))
               clear HC
               have HC := HC'
               clear HC'
               try clear f0 f1 f2 f3 f4
               have f0 : wn.cell? ⟨w1.heap.size, 0, none⟩ = some (.int .i64 l.base) := BL9.out.below (below_more HR9.out HC.out) 0 _ rfl
               have f1 : wn.cell? ⟨w1.heap.size, 1, none⟩ = some (.slice A1 n1 c1) := BL9.out.below (below_more HR9.out HC.out) 1 _ rfl
               have f2 : wn.cell? ⟨w2.heap.size, 0, none⟩ = some (.int .i64 x.base) := BX9.out.below (below_more HR9.out HC.out) 0 _ rfl
               have f3 : wn.cell? ⟨w2.heap.size, 1, none⟩ = some (.slice A2 n2 c2) := BX9.out.below (below_more HR9.out HC.out) 1 _ rfl
               have f4 : wn.cell? ⟨b9, o9 + j, none⟩ = some (.int .i64 y) := (HC.out.cell (block_lt_of_cell cy)).trans cy
               clear hb))
          go_wp2
          go_roundw
          case rel => exact ⟨j + 1, by omega, by go_num, Lib.hid (below_more HR9.out HC.out)⟩
          case measure => simp [intOf]; omega
      · have hbb : (x.base == l.base) = true := by simpa using HB1.out
        have hnn : (n == n) = true := by simp
        have hlt2 : ¬ (j : Int) < (N : Int) := by omega
        clear hlt
        have hok := fun w1 v1 (hr : RdLab w1 v1 x) => (show Calls Try.prog 12 #[v1] w1 (RetV (.bool true) w1) by have := impl_labok v1 x w1 hr; rw [HO1.out] at this; exact this)
        have hlv := fun w1 v1 (hr : RdLab w1 v1 x) => (show Calls Try.prog 19 #[v1, .int .i64 h] w1 (RetV (.int .i64 n) w1) by have := impl_levelof v1 x h w1 hr; rw [HL1.out] at this; exact this)
        have HOK := Lib.hid hok
        have HLV := Lib.hid hlv
        clear hok hlv
        go_wp2_with fail
        refine (HOK.out _ _ (RX9.out.below HR9.out)).mono ?_
        rintro e w10 ⟨rfl, hb⟩
        have HR10 := Lib.hid (below_more HR9.out hb)
        have belr := Lib.hid (below_more belr.out hb)
        clear hb BLc0 BLc1 BXc0 BXc1 HR9
        have BLc0 := BL9.out.below HR10.out 0 _ rfl
        have BXc0 := BX9.out.below HR10.out 0 _ rfl
        have BXc1 := BX9.out.below HR10.out 1 _ rfl
        go_wp2_with fail
        refine (HLV.out _ _ (RX9.out.below HR10.out)).mono ?_
        rintro e w11 ⟨rfl, hb⟩
        have HR11 := Lib.hid (below_more HR10.out hb)
        have belr := Lib.hid (below_more belr.out hb)
        clear hb BLc0 BXc0 BXc1 HR10
        have BLc0 := BL9.out.below HR11.out 0 _ rfl
        have BXc0 := BX9.out.below HR11.out 0 _ rfl
        go_wp2
        go_ret
        exact ⟨rfl, belr.out⟩
  · go_enter Try.func8, Try.ntmps8
    go_wp2_with fail
    refine (big_yes a len cap _ (by omega)).mono ?_
    rintro e w1 ⟨rfl, rfl⟩
    go_wp2
    go_ret
    exact ⟨rfl, .refl _ _⟩

set_option maxRecDepth 100000 in
theorem lifted (os : Os) (started : os.Started) (H : Type) (enc : TypeId × Value → H) :
    ReturnsInHanded {} Try.checked os 8 .any (Rows.fnLabelsSpec.pre6 enc Try.prog Try.f8 Rows.fnLabelsRow.domain false) (Rows.fnLabelsSpec.post enc Try.prog Try.f8 false true false false) := by
  refine returnsInHanded_of_change (C := Try.checked) own started (by kernel_rfl) Try.func8
    (ChangeSpec.witness6 (enc := enc) (C := Try.checked) false ⟨#[], #[.slice none 0 0], []⟩ 8 (by kernel_rfl) (by kernel_rfl) (by kernel_rfl) (by kernel_rfl)) ?_
  intro W base args ds gs before hval0 hW hcnd _
  have hval : ∀ (j : Nat) t v, Try.f8.params[j]? = some t → args[j]? = some v → Value.okWide Try.prog W .any base t v := hval0
  have hW' := hW
  obtain ⟨p, q, hA0, hV, rfl, hfz, hnd⟩ := hW
  have hA : DataW.TrodAll enc Try.prog W 0 (fun _ => true) true Try.f8.params.toList args.toList ds p := hA0
  rw [Try.params8] at hA hval
  obtain ⟨v0, vs0, d0, ds0, p0, q0, hargs, rfl, rfl, h0, r0⟩ := trodAll_cons hA
  obtain ⟨rfl, rfl, rfl⟩ := trodAll_nil r0
  obtain rfl : args = #[v0] := by cases args; simp_all
  obtain ⟨rfl, rfl⟩ := trodVars_none hV
  have k0 := h0
  have lt0 : ∀ x ∈ p0, x.block < W.heap.size := by obtain ⟨m, hm⟩ := k0; exact DataW.trod_lt m _ _ _ hm
  obtain ⟨a0, len0, cap0, rfl, z0, w0⟩ := open_bytes (hval 0 46 v0 rfl rfl) h0
  clear hA0 hval0
  refine (walk a0 len0 cap0 z0 w0 (w := W)).mono fun e W' ⟨he, bel⟩ => ?_
  subst he
  exact ⟨_, rfl, _, _, _, [], _, [], hW', (trodAll_cons_mk (shut_bool Try.underlying4 _) trodAll_mk0), (trodAll_cons_mk (Below.trod laidOut (by kernel_rfl) (of_decide_eq_true (by kernel_rfl)) k0 bel lt0) trodAll_mk0), rfl, bel.frame _, fun h => by cases h⟩

theorem said : Rows.FnLabelsSaid :=
  OpenClaim.holds_of_wide 8 Try.f8 rfl rfl rfl rfl rfl rfl rfl ⟨rfl, rfl, rfl, rfl, rfl⟩ rfl rfl rfl rfl rfl (by kernel_rfl) Try.func8 (by kernel_rfl)
    (of_decide_eq_true (by kernel_rfl)) (by unfold Func.isWrapper; first | (rw [if_pos (by decide +kernel)]; kernel_rfl) | (rw [if_neg (by decide +kernel)]; exact ⟨rfl, rfl⟩))
    (fun os started H enc _ => lifted os started H enc)

theorem proved : Rows.FnLabelsSaid := said
#print axioms proved
end Go.Proofs.Ytobggbejkfkodaa.fnLabels
