/-
  FnOrder: whatever the input, the law returns true and its arguments read as they did; no condition.
-/
import Derived.Test.YtoaglephpkmaeaaBase
import Derived.Test.YtoaglephpkmaeaaRows
import Derived.Test.YtoaglephpkmaeaaHas
import Derived.Test.YtoaglephpkmaeaaLike
import Derived.Test.YtoaglephpkmaeaaDrawLabs34
import Derived.Test.YtoaglephpkmaeaaImplOrd
import Derived.Test.YtoaglephpkmaeaaSpecJoin2
import Derived.Test.YtoaglephpkmaeaaSpecOrd
import Derived.Test.YtoaglephpkmaeaaOrdLaws
namespace Go.Proofs.Ytoaglephpkmaeaa.fnOrder
set_option maxRecDepth 100000
open Go.ChangeShapes Go.WideShapes Go.ChangeAt Go.RowKit
open Go.ChangeMaps (open_string shut_string)
set_option linter.unusedVariables false

theorem at_of {l m : Lab} {b : Bool} (h : atMost l m = b) (v u : Value) (w : World) (hr : RdLab w v l) (hq : RdLab w u m) : Calls Try.prog 15 #[v, u] w (RetV (.bool b) w) := by
  have := impl_atmost v u l m w hr hq
  rwa [h] at this
theorem like_of {l m : Lab} (h : l = m) (v u : Value) (w : World) (hr : RdLab w v l) (hq : RdLab w u m) : Calls Try.prog 14 #[v, u] w (RetV (.bool true) w) := by
  subst h
  exact like_lab v u l w hr hq

set_option maxHeartbeats 8000000 in
theorem walk {w : World} (a : Option Addr) (len cap : Nat) (zs : List Int) (w0 : IsRow .u8 w a len cap zs) :
    Calls Try.prog 3 #[.slice a len cap] w fun e w' => e = .returned (.bool true) ∧ Below w.heap.size w w' := by
  by_cases hl : len ≤ 4096
  · go_enter Try.func3, Try.ntmps3
    have bel := Below.refl w.heap.size w
    go_wp2_with fail
    refine (big_no a len cap _ (by omega)).mono ?_
    rintro e w1 ⟨rfl, rfl⟩
    go_wp2_with fail
    refine (draw_join a len cap zs _ hl (by first | exact w0.below bel | exact w0.below (bel.alloc bel.size _) | exact w0.below ((bel.alloc bel.size _).alloc (by have := bel.size; simp; omega) _))).mono ?_
    rintro e w1 ⟨v1, v2, l, m, rfl, ra, rb, hb⟩
    have hB : Below w.heap.size w w1 := by first | exact hb | exact hb | exact below_undrew hb
    have bel' : Below w.heap.size w w1 := below_more bel hB
    clear bel
    have bel := bel'
    clear bel'
    have RA := Lib.hid (ra)
    have RB := Lib.hid (rb)
    obtain ⟨A1, n1, c1, rfl, -⟩ := ra
    obtain ⟨A2, n2, c2, rfl, -⟩ := rb
    clear hb hB
    go_wp2_with fail
    refine (draw_atmost a len cap zs _ hl (by first | exact w0.below bel | exact w0.below (bel.alloc bel.size _) | exact w0.below ((bel.alloc bel.size _).alloc (by have := bel.size; simp; omega) _))).mono ?_
    rintro e w2 ⟨v3, v4, o, o2, rfl, rc, rd, hb⟩
    have hB : Below w1.heap.size w1 w2 := by first | exact over_alloc (over_alloc hb) | exact hb | exact below_undrew hb
    have BA : Hid (Has w2 (w1.heap.size) [.int .i64 l.base, .slice A1 n1 c1]) := Lib.hid (by exact Has.new2 hb)
    have BB : Hid (Has w2 (w1.heap.size + 1) [.int .i64 m.base, .slice A2 n2 c2]) := Lib.hid (by exact Has.new3 hb)
    have RA' := Lib.hid (RA.out.below hB)
    clear RA
    have RA := RA'
    clear RA'
    have RB' := Lib.hid (RB.out.below hB)
    clear RB
    have RB := RB'
    clear RB'
    have bel' : Below w.heap.size w w2 := below_more bel hB
    clear bel
    have bel := bel'
    clear bel'
    have RC := Lib.hid (rc)
    obtain ⟨A3, n3, c3, rfl, -⟩ := rc
    obtain ⟨A4, n4, c4, rfl, -⟩ := rd
    clear hb hB
    obtain ⟨x, is, hR⟩ : ∃ x is, joinL l m = (x, is) := ⟨_, _, rfl⟩
    have HI : Hid (∀ w1 v1 u1, RdLab w1 v1 l → RdLab w1 u1 m → Calls Try.prog 10 #[v1, u1] w1 (RetLab2 x is w1)) := Lib.hid (fun w1 v1 u1 hr hq => by have := impl_join v1 u1 l m w1 hr hq; rw [hR] at this; exact this)
    have HS : Hid (∀ w1 v1 u1, RdLab w1 v1 l → RdLab w1 u1 m → Calls Try.prog 11 #[v1, u1] w1 (RetLab2 x is w1)) := Lib.hid (fun w1 v1 u1 hr hq => by have := spec_join v1 u1 l m w1 hr hq; rw [hR] at this; exact this)
    have HJ := Lib.hid hR
    clear hR
    have BAc0 := BA.out 0 _ rfl
    have BAc1 := BA.out 1 _ rfl
    have BAz := block_lt_of_cell BAc0
    have BBc0 := BB.out 0 _ rfl
    have BBc1 := BB.out 1 _ rfl
    have BBz := block_lt_of_cell BBc0
    go_wp2_with fail
    refine (HI.out _ _ _ (by first | exact RA.out | exact RA.out.alloc _ | exact (RA.out.alloc _).alloc _) (by first | exact RB.out | exact RB.out.alloc _ | exact (RB.out.alloc _).alloc _)).mono ?_
    rintro e w3 ⟨v5, rfl, own, hb⟩
    clear BAc0 BAc1 BBc0 BBc1 BAz BBz
    have hB : Below w2.heap.size w2 w3 := by first | exact over_alloc (over_alloc hb) | exact hb | exact below_undrew hb
    have BC : Hid (Has w3 (w2.heap.size) [.int .i64 o.base, .slice A3 n3 c3]) := Lib.hid (by exact Has.new2 hb)
    have BD : Hid (Has w3 (w2.heap.size + 1) [.int .i64 o2.base, .slice A4 n4 c4]) := Lib.hid (by exact Has.new3 hb)
    have BA' := Lib.hid (BA.out.below hB)
    clear BA
    have BA := BA'
    clear BA'
    have BB' := Lib.hid (BB.out.below hB)
    clear BB
    have BB := BB'
    clear BB'
    have RA' := Lib.hid (RA.out.below hB)
    clear RA
    have RA := RA'
    clear RA'
    have RB' := Lib.hid (RB.out.below hB)
    clear RB
    have RB := RB'
    clear RB'
    have RC' := Lib.hid (RC.out.below hB)
    clear RC
    have RC := RC'
    clear RC'
    have bel' : Below w.heap.size w w3 := below_more bel hB
    clear bel
    have bel := bel'
    clear bel'
    have RJ := Lib.hid (own.rd)
    obtain ⟨A5, n5, c5, rfl, -⟩ := own
    clear hb hB
    have BAc0 := BA.out 0 _ rfl
    have BAc1 := BA.out 1 _ rfl
    have BAz := block_lt_of_cell BAc0
    have BBc0 := BB.out 0 _ rfl
    have BBc1 := BB.out 1 _ rfl
    have BBz := block_lt_of_cell BBc0
    go_wp2_with fail
    refine (HS.out _ _ _ (by first | exact RA.out | exact RA.out.alloc _ | exact (RA.out.alloc _).alloc _) (by first | exact RB.out | exact RB.out.alloc _ | exact (RB.out.alloc _).alloc _)).mono ?_
    rintro e w4 ⟨v6, rfl, own, hb⟩
    clear BAc0 BAc1 BBc0 BBc1 BAz BBz
    have hB : Below w3.heap.size w3 w4 := by first | exact over_alloc hb | exact hb | exact below_undrew hb
    have BJ : Hid (Has w4 (w3.heap.size) [.int .i64 x.base, .slice A5 n5 c5]) := Lib.hid (by exact Has.new hb)
    have BA' := Lib.hid (BA.out.below hB)
    clear BA
    have BA := BA'
    clear BA'
    have BB' := Lib.hid (BB.out.below hB)
    clear BB
    have BB := BB'
    clear BB'
    have BC' := Lib.hid (BC.out.below hB)
    clear BC
    have BC := BC'
    clear BC'
    have BD' := Lib.hid (BD.out.below hB)
    clear BD
    have BD := BD'
    clear BD'
    have RA' := Lib.hid (RA.out.below hB)
    clear RA
    have RA := RA'
    clear RA'
    have RB' := Lib.hid (RB.out.below hB)
    clear RB
    have RB := RB'
    clear RB'
    have RC' := Lib.hid (RC.out.below hB)
    clear RC
    have RC := RC'
    clear RC'
    have RJ' := Lib.hid (RJ.out.below hB)
    clear RJ
    have RJ := RJ'
    clear RJ'
    have bel' : Below w.heap.size w w4 := below_more bel hB
    clear bel
    have bel := bel'
    clear bel'
    have RX := Lib.hid (own.rd)
    obtain ⟨A6, n6, c6, rfl, -⟩ := own
    clear hb hB
    clear HI HS
    obtain ⟨y, too, hR⟩ : ∃ x is, meetL l m = (x, is) := ⟨_, _, rfl⟩
    have HI : Hid (∀ w1 v1 u1, RdLab w1 v1 l → RdLab w1 u1 m → Calls Try.prog 12 #[v1, u1] w1 (RetLab2 y too w1)) := Lib.hid (fun w1 v1 u1 hr hq => by have := impl_meet v1 u1 l m w1 hr hq; rw [hR] at this; exact this)
    have HS : Hid (∀ w1 v1 u1, RdLab w1 v1 l → RdLab w1 u1 m → Calls Try.prog 13 #[v1, u1] w1 (RetLab2 y too w1)) := Lib.hid (fun w1 v1 u1 hr hq => by have := spec_meet v1 u1 l m w1 hr hq; rw [hR] at this; exact this)
    have HM := Lib.hid hR
    clear hR
    have BAc0 := BA.out 0 _ rfl
    have BAc1 := BA.out 1 _ rfl
    have BAz := block_lt_of_cell BAc0
    have BBc0 := BB.out 0 _ rfl
    have BBc1 := BB.out 1 _ rfl
    have BBz := block_lt_of_cell BBc0
    go_wp2_with fail
    refine (HI.out _ _ _ (by first | exact RA.out | exact RA.out.alloc _ | exact (RA.out.alloc _).alloc _) (by first | exact RB.out | exact RB.out.alloc _ | exact (RB.out.alloc _).alloc _)).mono ?_
    rintro e w5 ⟨v7, rfl, own, hb⟩
    clear BAc0 BAc1 BBc0 BBc1 BAz BBz
    have hB : Below w4.heap.size w4 w5 := by first | exact over_alloc hb | exact hb | exact below_undrew hb
    have BX : Hid (Has w5 (w4.heap.size) [.int .i64 x.base, .slice A6 n6 c6]) := Lib.hid (by exact Has.new hb)
    have BA' := Lib.hid (BA.out.below hB)
    clear BA
    have BA := BA'
    clear BA'
    have BB' := Lib.hid (BB.out.below hB)
    clear BB
    have BB := BB'
    clear BB'
    have BC' := Lib.hid (BC.out.below hB)
    clear BC
    have BC := BC'
    clear BC'
    have BD' := Lib.hid (BD.out.below hB)
    clear BD
    have BD := BD'
    clear BD'
    have BJ' := Lib.hid (BJ.out.below hB)
    clear BJ
    have BJ := BJ'
    clear BJ'
    have RA' := Lib.hid (RA.out.below hB)
    clear RA
    have RA := RA'
    clear RA'
    have RB' := Lib.hid (RB.out.below hB)
    clear RB
    have RB := RB'
    clear RB'
    have RC' := Lib.hid (RC.out.below hB)
    clear RC
    have RC := RC'
    clear RC'
    have RJ' := Lib.hid (RJ.out.below hB)
    clear RJ
    have RJ := RJ'
    clear RJ'
    have RX' := Lib.hid (RX.out.below hB)
    clear RX
    have RX := RX'
    clear RX'
    have bel' : Below w.heap.size w w5 := below_more bel hB
    clear bel
    have bel := bel'
    clear bel'
    have RM := Lib.hid (own.rd)
    obtain ⟨A7, n7, c7, rfl, -⟩ := own
    clear hb hB
    have BAc0 := BA.out 0 _ rfl
    have BAc1 := BA.out 1 _ rfl
    have BAz := block_lt_of_cell BAc0
    have BBc0 := BB.out 0 _ rfl
    have BBc1 := BB.out 1 _ rfl
    have BBz := block_lt_of_cell BBc0
    go_wp2_with fail
    refine (HS.out _ _ _ (by first | exact RA.out | exact RA.out.alloc _ | exact (RA.out.alloc _).alloc _) (by first | exact RB.out | exact RB.out.alloc _ | exact (RB.out.alloc _).alloc _)).mono ?_
    rintro e w6 ⟨v8, rfl, own, hb⟩
    clear BAc0 BAc1 BBc0 BBc1 BAz BBz
    have hB : Below w5.heap.size w5 w6 := by first | exact over_alloc hb | exact hb | exact below_undrew hb
    have BM : Hid (Has w6 (w5.heap.size) [.int .i64 y.base, .slice A7 n7 c7]) := Lib.hid (by exact Has.new hb)
    have BA' := Lib.hid (BA.out.below hB)
    clear BA
    have BA := BA'
    clear BA'
    have BB' := Lib.hid (BB.out.below hB)
    clear BB
    have BB := BB'
    clear BB'
    have BC' := Lib.hid (BC.out.below hB)
    clear BC
    have BC := BC'
    clear BC'
    have BD' := Lib.hid (BD.out.below hB)
    clear BD
    have BD := BD'
    clear BD'
    have BJ' := Lib.hid (BJ.out.below hB)
    clear BJ
    have BJ := BJ'
    clear BJ'
    have BX' := Lib.hid (BX.out.below hB)
    clear BX
    have BX := BX'
    clear BX'
    have RA' := Lib.hid (RA.out.below hB)
    clear RA
    have RA := RA'
    clear RA'
    have RB' := Lib.hid (RB.out.below hB)
    clear RB
    have RB := RB'
    clear RB'
    have RC' := Lib.hid (RC.out.below hB)
    clear RC
    have RC := RC'
    clear RC'
    have RJ' := Lib.hid (RJ.out.below hB)
    clear RJ
    have RJ := RJ'
    clear RJ'
    have RX' := Lib.hid (RX.out.below hB)
    clear RX
    have RX := RX'
    clear RX'
    have RM' := Lib.hid (RM.out.below hB)
    clear RM
    have RM := RM'
    clear RM'
    have bel' : Below w.heap.size w w6 := below_more bel hB
    clear bel
    have bel := bel'
    clear bel'
    have RY := Lib.hid (own.rd)
    obtain ⟨A8, n8, c8, rfl, -⟩ := own
    clear hb hB
    clear HI HS
    go_upto_region 9 with fail
    generalize hW : w6.alloc (.cells #[.int .i64 y.base, .slice A8 n8 c8] 26) = wg
    have hB : Below w6.heap.size w6 wg := by rw [← hW]; exact (Below.refl _ _).alloc (Nat.le_refl _) _
    have BY : Hid (Has wg w6.heap.size [.int .i64 y.base, .slice A8 n8 c8]) := Lib.hid (Has.new (by rw [hW]; exact .refl _ _))
    clear hW
    have BA' := Lib.hid (BA.out.below hB)
    clear BA
    have BA := BA'
    clear BA'
    have BB' := Lib.hid (BB.out.below hB)
    clear BB
    have BB := BB'
    clear BB'
    have BC' := Lib.hid (BC.out.below hB)
    clear BC
    have BC := BC'
    clear BC'
    have BJ' := Lib.hid (BJ.out.below hB)
    clear BJ
    have BJ := BJ'
    clear BJ'
    have BX' := Lib.hid (BX.out.below hB)
    clear BX
    have BX := BX'
    clear BX'
    have BM' := Lib.hid (BM.out.below hB)
    clear BM
    have BM := BM'
    clear BM'
    have RA' := Lib.hid (RA.out.below hB)
    clear RA
    have RA := RA'
    clear RA'
    have RB' := Lib.hid (RB.out.below hB)
    clear RB
    have RB := RB'
    clear RB'
    have RC' := Lib.hid (RC.out.below hB)
    clear RC
    have RC := RC'
    clear RC'
    have RJ' := Lib.hid (RJ.out.below hB)
    clear RJ
    have RJ := RJ'
    clear RJ'
    have RX' := Lib.hid (RX.out.below hB)
    clear RX
    have RX := RX'
    clear RX'
    have RM' := Lib.hid (RM.out.below hB)
    clear RM
    have RM := RM'
    clear RM'
    have RY' := Lib.hid (RY.out.below hB)
    clear RY
    have RY := RY'
    clear RY'
    have BEL := Lib.hid (below_more bel hB)
    clear bel hB BD
    have HC := Lib.hid (Below.refl wg.heap.size wg)
    have di : (is != is) = false := by simp
    have dt : (too != too) = false := by simp
    have d1 : (atMost l m != atMost l m) = false := by simp
    have d2 : (atMost o l != atMost o l) = false := by simp
    go_cut [88] (fun s wx => s = .bool false ∧ Hid (Below wg.heap.size wg wx))
    case first =>
      have f0 := BA.out.below HC.out 0 _ rfl
      have f1 := BA.out.below HC.out 1 _ rfl
      have f2 := BB.out.below HC.out 0 _ rfl
      have f3 := BB.out.below HC.out 1 _ rfl
      have f4 := BC.out.below HC.out 0 _ rfl
      have f5 := BC.out.below HC.out 1 _ rfl
      have f6 := BJ.out.below HC.out 0 _ rfl
      have f7 := BJ.out.below HC.out 1 _ rfl
      have f8 := BX.out.below HC.out 0 _ rfl
      have f9 := BX.out.below HC.out 1 _ rfl
      have f10 := BM.out.below HC.out 0 _ rfl
      have f11 := BM.out.below HC.out 1 _ rfl
      have f12 := BY.out.below HC.out 0 _ rfl
      have f13 := BY.out.below HC.out 1 _ rfl
      go_region_held3 (fun w' => w'.cell? ⟨w1.heap.size, 0, none⟩ = some (.int .i64 l.base) ∧ w'.cell? ⟨w1.heap.size, 1, none⟩ = some (.slice A1 n1 c1) ∧ w'.cell? ⟨w1.heap.size + 1, 0, none⟩ = some (.int .i64 m.base) ∧ w'.cell? ⟨w1.heap.size + 1, 1, none⟩ = some (.slice A2 n2 c2) ∧ w'.cell? ⟨w2.heap.size, 0, none⟩ = some (.int .i64 o.base) ∧ w'.cell? ⟨w2.heap.size, 1, none⟩ = some (.slice A3 n3 c3) ∧ w'.cell? ⟨w3.heap.size, 0, none⟩ = some (.int .i64 x.base) ∧ w'.cell? ⟨w3.heap.size, 1, none⟩ = some (.slice A5 n5 c5) ∧ w'.cell? ⟨w4.heap.size, 0, none⟩ = some (.int .i64 x.base) ∧ w'.cell? ⟨w4.heap.size, 1, none⟩ = some (.slice A6 n6 c6) ∧ w'.cell? ⟨w5.heap.size, 0, none⟩ = some (.int .i64 y.base) ∧ w'.cell? ⟨w5.heap.size, 1, none⟩ = some (.slice A7 n7 c7) ∧ w'.cell? ⟨w6.heap.size, 0, none⟩ = some (.int .i64 y.base) ∧ w'.cell? ⟨w6.heap.size, 1, none⟩ = some (.slice A8 n8 c8))
        (first | exact ⟨f0, f1, f2, f3, f4, f5, f6, f7, f8, f9, f10, f11, f12, f13⟩ | go_keep)
        (first
        | (go_at_call_of 14 (Value.agg #[Value.int IntKind.i64 x.base, Value.slice A5 n5 c5])
           refine (like_lab _ _ x _ (by first | exact RJ.out.below HC.out | exact (RJ.out.below HC.out).drew) (by first | exact RX.out.below HC.out | exact (RX.out.below HC.out).drew)).mono ?_
           rintro e wn ⟨rfl, hb⟩
           have HC' : Hid (Below wg.heap.size wg wn) := Lib.hid (by first | exact below_more HC.out hb | exact below_more HC.out (below_undrew hb))
           clear HC
           have HC := HC'
           clear HC'
           try clear f0 f1 f2 f3 f4 f5 f6 f7 f8 f9 f10 f11 f12 f13
           have f0 : wn.cell? ⟨w1.heap.size, 0, none⟩ = some (.int .i64 l.base) := BA.out.below HC.out 0 _ rfl
           have f1 : wn.cell? ⟨w1.heap.size, 1, none⟩ = some (.slice A1 n1 c1) := BA.out.below HC.out 1 _ rfl
           have f2 : wn.cell? ⟨w1.heap.size + 1, 0, none⟩ = some (.int .i64 m.base) := BB.out.below HC.out 0 _ rfl
           have f3 : wn.cell? ⟨w1.heap.size + 1, 1, none⟩ = some (.slice A2 n2 c2) := BB.out.below HC.out 1 _ rfl
           have f4 : wn.cell? ⟨w2.heap.size, 0, none⟩ = some (.int .i64 o.base) := BC.out.below HC.out 0 _ rfl
           have f5 : wn.cell? ⟨w2.heap.size, 1, none⟩ = some (.slice A3 n3 c3) := BC.out.below HC.out 1 _ rfl
           have f6 : wn.cell? ⟨w3.heap.size, 0, none⟩ = some (.int .i64 x.base) := BJ.out.below HC.out 0 _ rfl
           have f7 : wn.cell? ⟨w3.heap.size, 1, none⟩ = some (.slice A5 n5 c5) := BJ.out.below HC.out 1 _ rfl
           have f8 : wn.cell? ⟨w4.heap.size, 0, none⟩ = some (.int .i64 x.base) := BX.out.below HC.out 0 _ rfl
           have f9 : wn.cell? ⟨w4.heap.size, 1, none⟩ = some (.slice A6 n6 c6) := BX.out.below HC.out 1 _ rfl
           have f10 : wn.cell? ⟨w5.heap.size, 0, none⟩ = some (.int .i64 y.base) := BM.out.below HC.out 0 _ rfl
           have f11 : wn.cell? ⟨w5.heap.size, 1, none⟩ = some (.slice A7 n7 c7) := BM.out.below HC.out 1 _ rfl
           have f12 : wn.cell? ⟨w6.heap.size, 0, none⟩ = some (.int .i64 y.base) := BY.out.below HC.out 0 _ rfl
           have f13 : wn.cell? ⟨w6.heap.size, 1, none⟩ = some (.slice A8 n8 c8) := BY.out.below HC.out 1 _ rfl
           clear hb)
        | (go_at_call_of 14 (Value.agg #[Value.int IntKind.i64 y.base, Value.slice A7 n7 c7])
           refine (like_lab _ _ y _ (by first | exact RM.out.below HC.out | exact (RM.out.below HC.out).drew) (by first | exact RY.out.below HC.out | exact (RY.out.below HC.out).drew)).mono ?_
           rintro e wn ⟨rfl, hb⟩
           have HC' : Hid (Below wg.heap.size wg wn) := Lib.hid (by first | exact below_more HC.out hb | exact below_more HC.out (below_undrew hb))
           clear HC
           have HC := HC'
           clear HC'
           try clear f0 f1 f2 f3 f4 f5 f6 f7 f8 f9 f10 f11 f12 f13
           have f0 : wn.cell? ⟨w1.heap.size, 0, none⟩ = some (.int .i64 l.base) := BA.out.below HC.out 0 _ rfl
           have f1 : wn.cell? ⟨w1.heap.size, 1, none⟩ = some (.slice A1 n1 c1) := BA.out.below HC.out 1 _ rfl
           have f2 : wn.cell? ⟨w1.heap.size + 1, 0, none⟩ = some (.int .i64 m.base) := BB.out.below HC.out 0 _ rfl
           have f3 : wn.cell? ⟨w1.heap.size + 1, 1, none⟩ = some (.slice A2 n2 c2) := BB.out.below HC.out 1 _ rfl
           have f4 : wn.cell? ⟨w2.heap.size, 0, none⟩ = some (.int .i64 o.base) := BC.out.below HC.out 0 _ rfl
           have f5 : wn.cell? ⟨w2.heap.size, 1, none⟩ = some (.slice A3 n3 c3) := BC.out.below HC.out 1 _ rfl
           have f6 : wn.cell? ⟨w3.heap.size, 0, none⟩ = some (.int .i64 x.base) := BJ.out.below HC.out 0 _ rfl
           have f7 : wn.cell? ⟨w3.heap.size, 1, none⟩ = some (.slice A5 n5 c5) := BJ.out.below HC.out 1 _ rfl
           have f8 : wn.cell? ⟨w4.heap.size, 0, none⟩ = some (.int .i64 x.base) := BX.out.below HC.out 0 _ rfl
           have f9 : wn.cell? ⟨w4.heap.size, 1, none⟩ = some (.slice A6 n6 c6) := BX.out.below HC.out 1 _ rfl
           have f10 : wn.cell? ⟨w5.heap.size, 0, none⟩ = some (.int .i64 y.base) := BM.out.below HC.out 0 _ rfl
           have f11 : wn.cell? ⟨w5.heap.size, 1, none⟩ = some (.slice A7 n7 c7) := BM.out.below HC.out 1 _ rfl
           have f12 : wn.cell? ⟨w6.heap.size, 0, none⟩ = some (.int .i64 y.base) := BY.out.below HC.out 0 _ rfl
           have f13 : wn.cell? ⟨w6.heap.size, 1, none⟩ = some (.slice A8 n8 c8) := BY.out.below HC.out 1 _ rfl
           clear hb)
        | (go_at_call_of 15 (Value.agg #[Value.int IntKind.i64 l.base, Value.slice A1 n1 c1])
           refine (impl_atmost _ _ l m _ (by first | exact RA.out.below HC.out | exact (RA.out.below HC.out).drew) (by first | exact RB.out.below HC.out | exact (RB.out.below HC.out).drew)).mono ?_
           rintro e wn ⟨rfl, hb⟩
           have HC' : Hid (Below wg.heap.size wg wn) := Lib.hid (by first | exact below_more HC.out hb | exact below_more HC.out (below_undrew hb))
           clear HC
           have HC := HC'
           clear HC'
           try clear f0 f1 f2 f3 f4 f5 f6 f7 f8 f9 f10 f11 f12 f13
           have f0 : wn.cell? ⟨w1.heap.size, 0, none⟩ = some (.int .i64 l.base) := BA.out.below HC.out 0 _ rfl
           have f1 : wn.cell? ⟨w1.heap.size, 1, none⟩ = some (.slice A1 n1 c1) := BA.out.below HC.out 1 _ rfl
           have f2 : wn.cell? ⟨w1.heap.size + 1, 0, none⟩ = some (.int .i64 m.base) := BB.out.below HC.out 0 _ rfl
           have f3 : wn.cell? ⟨w1.heap.size + 1, 1, none⟩ = some (.slice A2 n2 c2) := BB.out.below HC.out 1 _ rfl
           have f4 : wn.cell? ⟨w2.heap.size, 0, none⟩ = some (.int .i64 o.base) := BC.out.below HC.out 0 _ rfl
           have f5 : wn.cell? ⟨w2.heap.size, 1, none⟩ = some (.slice A3 n3 c3) := BC.out.below HC.out 1 _ rfl
           have f6 : wn.cell? ⟨w3.heap.size, 0, none⟩ = some (.int .i64 x.base) := BJ.out.below HC.out 0 _ rfl
           have f7 : wn.cell? ⟨w3.heap.size, 1, none⟩ = some (.slice A5 n5 c5) := BJ.out.below HC.out 1 _ rfl
           have f8 : wn.cell? ⟨w4.heap.size, 0, none⟩ = some (.int .i64 x.base) := BX.out.below HC.out 0 _ rfl
           have f9 : wn.cell? ⟨w4.heap.size, 1, none⟩ = some (.slice A6 n6 c6) := BX.out.below HC.out 1 _ rfl
           have f10 : wn.cell? ⟨w5.heap.size, 0, none⟩ = some (.int .i64 y.base) := BM.out.below HC.out 0 _ rfl
           have f11 : wn.cell? ⟨w5.heap.size, 1, none⟩ = some (.slice A7 n7 c7) := BM.out.below HC.out 1 _ rfl
           have f12 : wn.cell? ⟨w6.heap.size, 0, none⟩ = some (.int .i64 y.base) := BY.out.below HC.out 0 _ rfl
           have f13 : wn.cell? ⟨w6.heap.size, 1, none⟩ = some (.slice A8 n8 c8) := BY.out.below HC.out 1 _ rfl
           clear hb)
        | (go_at_call_of 16 (Value.agg #[Value.int IntKind.i64 l.base, Value.slice A1 n1 c1])
           refine (spec_atmost _ _ l m _ (by first | exact RA.out.below HC.out | exact (RA.out.below HC.out).drew) (by first | exact RB.out.below HC.out | exact (RB.out.below HC.out).drew)).mono ?_
           rintro e wn ⟨rfl, hb⟩
           have HC' : Hid (Below wg.heap.size wg wn) := Lib.hid (by first | exact below_more HC.out hb | exact below_more HC.out (below_undrew hb))
           clear HC
           have HC := HC'
           clear HC'
           try clear f0 f1 f2 f3 f4 f5 f6 f7 f8 f9 f10 f11 f12 f13
           have f0 : wn.cell? ⟨w1.heap.size, 0, none⟩ = some (.int .i64 l.base) := BA.out.below HC.out 0 _ rfl
           have f1 : wn.cell? ⟨w1.heap.size, 1, none⟩ = some (.slice A1 n1 c1) := BA.out.below HC.out 1 _ rfl
           have f2 : wn.cell? ⟨w1.heap.size + 1, 0, none⟩ = some (.int .i64 m.base) := BB.out.below HC.out 0 _ rfl
           have f3 : wn.cell? ⟨w1.heap.size + 1, 1, none⟩ = some (.slice A2 n2 c2) := BB.out.below HC.out 1 _ rfl
           have f4 : wn.cell? ⟨w2.heap.size, 0, none⟩ = some (.int .i64 o.base) := BC.out.below HC.out 0 _ rfl
           have f5 : wn.cell? ⟨w2.heap.size, 1, none⟩ = some (.slice A3 n3 c3) := BC.out.below HC.out 1 _ rfl
           have f6 : wn.cell? ⟨w3.heap.size, 0, none⟩ = some (.int .i64 x.base) := BJ.out.below HC.out 0 _ rfl
           have f7 : wn.cell? ⟨w3.heap.size, 1, none⟩ = some (.slice A5 n5 c5) := BJ.out.below HC.out 1 _ rfl
           have f8 : wn.cell? ⟨w4.heap.size, 0, none⟩ = some (.int .i64 x.base) := BX.out.below HC.out 0 _ rfl
           have f9 : wn.cell? ⟨w4.heap.size, 1, none⟩ = some (.slice A6 n6 c6) := BX.out.below HC.out 1 _ rfl
           have f10 : wn.cell? ⟨w5.heap.size, 0, none⟩ = some (.int .i64 y.base) := BM.out.below HC.out 0 _ rfl
           have f11 : wn.cell? ⟨w5.heap.size, 1, none⟩ = some (.slice A7 n7 c7) := BM.out.below HC.out 1 _ rfl
           have f12 : wn.cell? ⟨w6.heap.size, 0, none⟩ = some (.int .i64 y.base) := BY.out.below HC.out 0 _ rfl
           have f13 : wn.cell? ⟨w6.heap.size, 1, none⟩ = some (.slice A8 n8 c8) := BY.out.below HC.out 1 _ rfl
           clear hb)
        | (go_at_call_of 15 (Value.agg #[Value.int IntKind.i64 o.base, Value.slice A3 n3 c3])
           refine (impl_atmost _ _ o l _ (by first | exact RC.out.below HC.out | exact (RC.out.below HC.out).drew) (by first | exact RA.out.below HC.out | exact (RA.out.below HC.out).drew)).mono ?_
           rintro e wn ⟨rfl, hb⟩
           have HC' : Hid (Below wg.heap.size wg wn) := Lib.hid (by first | exact below_more HC.out hb | exact below_more HC.out (below_undrew hb))
           clear HC
           have HC := HC'
           clear HC'
           try clear f0 f1 f2 f3 f4 f5 f6 f7 f8 f9 f10 f11 f12 f13
           have f0 : wn.cell? ⟨w1.heap.size, 0, none⟩ = some (.int .i64 l.base) := BA.out.below HC.out 0 _ rfl
           have f1 : wn.cell? ⟨w1.heap.size, 1, none⟩ = some (.slice A1 n1 c1) := BA.out.below HC.out 1 _ rfl
           have f2 : wn.cell? ⟨w1.heap.size + 1, 0, none⟩ = some (.int .i64 m.base) := BB.out.below HC.out 0 _ rfl
           have f3 : wn.cell? ⟨w1.heap.size + 1, 1, none⟩ = some (.slice A2 n2 c2) := BB.out.below HC.out 1 _ rfl
           have f4 : wn.cell? ⟨w2.heap.size, 0, none⟩ = some (.int .i64 o.base) := BC.out.below HC.out 0 _ rfl
           have f5 : wn.cell? ⟨w2.heap.size, 1, none⟩ = some (.slice A3 n3 c3) := BC.out.below HC.out 1 _ rfl
           have f6 : wn.cell? ⟨w3.heap.size, 0, none⟩ = some (.int .i64 x.base) := BJ.out.below HC.out 0 _ rfl
           have f7 : wn.cell? ⟨w3.heap.size, 1, none⟩ = some (.slice A5 n5 c5) := BJ.out.below HC.out 1 _ rfl
           have f8 : wn.cell? ⟨w4.heap.size, 0, none⟩ = some (.int .i64 x.base) := BX.out.below HC.out 0 _ rfl
           have f9 : wn.cell? ⟨w4.heap.size, 1, none⟩ = some (.slice A6 n6 c6) := BX.out.below HC.out 1 _ rfl
           have f10 : wn.cell? ⟨w5.heap.size, 0, none⟩ = some (.int .i64 y.base) := BM.out.below HC.out 0 _ rfl
           have f11 : wn.cell? ⟨w5.heap.size, 1, none⟩ = some (.slice A7 n7 c7) := BM.out.below HC.out 1 _ rfl
           have f12 : wn.cell? ⟨w6.heap.size, 0, none⟩ = some (.int .i64 y.base) := BY.out.below HC.out 0 _ rfl
           have f13 : wn.cell? ⟨w6.heap.size, 1, none⟩ = some (.slice A8 n8 c8) := BY.out.below HC.out 1 _ rfl
           clear hb)
        | (go_at_call_of 16 (Value.agg #[Value.int IntKind.i64 o.base, Value.slice A3 n3 c3])
           refine (spec_atmost _ _ o l _ (by first | exact RC.out.below HC.out | exact (RC.out.below HC.out).drew) (by first | exact RA.out.below HC.out | exact (RA.out.below HC.out).drew)).mono ?_
           rintro e wn ⟨rfl, hb⟩
           have HC' : Hid (Below wg.heap.size wg wn) := Lib.hid (by first | exact below_more HC.out hb | exact below_more HC.out (below_undrew hb))
           clear HC
           have HC := HC'
           clear HC'
           try clear f0 f1 f2 f3 f4 f5 f6 f7 f8 f9 f10 f11 f12 f13
           have f0 : wn.cell? ⟨w1.heap.size, 0, none⟩ = some (.int .i64 l.base) := BA.out.below HC.out 0 _ rfl
           have f1 : wn.cell? ⟨w1.heap.size, 1, none⟩ = some (.slice A1 n1 c1) := BA.out.below HC.out 1 _ rfl
           have f2 : wn.cell? ⟨w1.heap.size + 1, 0, none⟩ = some (.int .i64 m.base) := BB.out.below HC.out 0 _ rfl
           have f3 : wn.cell? ⟨w1.heap.size + 1, 1, none⟩ = some (.slice A2 n2 c2) := BB.out.below HC.out 1 _ rfl
           have f4 : wn.cell? ⟨w2.heap.size, 0, none⟩ = some (.int .i64 o.base) := BC.out.below HC.out 0 _ rfl
           have f5 : wn.cell? ⟨w2.heap.size, 1, none⟩ = some (.slice A3 n3 c3) := BC.out.below HC.out 1 _ rfl
           have f6 : wn.cell? ⟨w3.heap.size, 0, none⟩ = some (.int .i64 x.base) := BJ.out.below HC.out 0 _ rfl
           have f7 : wn.cell? ⟨w3.heap.size, 1, none⟩ = some (.slice A5 n5 c5) := BJ.out.below HC.out 1 _ rfl
           have f8 : wn.cell? ⟨w4.heap.size, 0, none⟩ = some (.int .i64 x.base) := BX.out.below HC.out 0 _ rfl
           have f9 : wn.cell? ⟨w4.heap.size, 1, none⟩ = some (.slice A6 n6 c6) := BX.out.below HC.out 1 _ rfl
           have f10 : wn.cell? ⟨w5.heap.size, 0, none⟩ = some (.int .i64 y.base) := BM.out.below HC.out 0 _ rfl
           have f11 : wn.cell? ⟨w5.heap.size, 1, none⟩ = some (.slice A7 n7 c7) := BM.out.below HC.out 1 _ rfl
           have f12 : wn.cell? ⟨w6.heap.size, 0, none⟩ = some (.int .i64 y.base) := BY.out.below HC.out 0 _ rfl
           have f13 : wn.cell? ⟨w6.heap.size, 1, none⟩ = some (.slice A8 n8 c8) := BY.out.below HC.out 1 _ rfl
           clear hb))
      all_goals
        go_wp2
        go_meet
        case rel => exact ⟨by simp, HC⟩
    obtain ⟨rfl, HC'⟩ := hcut
    clear HC
    have HC := HC'
    clear HC'
    clear di dt d1 d2 BX BY RX RY
    go_upto_region 11 with fail
    go_cut [117] (fun s wx => s = .bool false ∧ Hid (Below wg.heap.size wg wx))
    case first =>
      cases is
      · go_wp2
        go_meet
        case rel => exact ⟨by simp, HC⟩
      · obtain ⟨k1, k2, hh3⟩ := atMost_join HJ.out
        rcases Bool.eq_false_or_eq_true (atMost l o) with k3 | k3
        · rcases Bool.eq_false_or_eq_true (atMost m o) with k4 | k4
          · have k5 := hh3 o k3 k4
            have f0 := BA.out.below HC.out 0 _ rfl
            have f1 := BA.out.below HC.out 1 _ rfl
            have f2 := BB.out.below HC.out 0 _ rfl
            have f3 := BB.out.below HC.out 1 _ rfl
            have f4 := BC.out.below HC.out 0 _ rfl
            have f5 := BC.out.below HC.out 1 _ rfl
            have f6 := BJ.out.below HC.out 0 _ rfl
            have f7 := BJ.out.below HC.out 1 _ rfl
            go_wp2_with fail
            refine (at_of k1 _ _ _ (by first | exact RA.out.below HC.out | exact (RA.out.below HC.out).drew) (by first | exact RJ.out.below HC.out | exact (RJ.out.below HC.out).drew)).mono ?_
            rintro e wn0 ⟨rfl, hb⟩
            have HC' : Hid (Below wg.heap.size wg wn0) := Lib.hid (below_more HC.out hb)
            clear HC
            have HC := HC'
            clear HC' f0 f1 f2 f3 f4 f5 f6 f7 hb
            have f0 : wn0.cell? ⟨w1.heap.size, 0, none⟩ = some (.int .i64 l.base) := BA.out.below HC.out 0 _ rfl
            have f1 : wn0.cell? ⟨w1.heap.size, 1, none⟩ = some (.slice A1 n1 c1) := BA.out.below HC.out 1 _ rfl
            have f2 : wn0.cell? ⟨w1.heap.size + 1, 0, none⟩ = some (.int .i64 m.base) := BB.out.below HC.out 0 _ rfl
            have f3 : wn0.cell? ⟨w1.heap.size + 1, 1, none⟩ = some (.slice A2 n2 c2) := BB.out.below HC.out 1 _ rfl
            have f4 : wn0.cell? ⟨w2.heap.size, 0, none⟩ = some (.int .i64 o.base) := BC.out.below HC.out 0 _ rfl
            have f5 : wn0.cell? ⟨w2.heap.size, 1, none⟩ = some (.slice A3 n3 c3) := BC.out.below HC.out 1 _ rfl
            have f6 : wn0.cell? ⟨w3.heap.size, 0, none⟩ = some (.int .i64 x.base) := BJ.out.below HC.out 0 _ rfl
            have f7 : wn0.cell? ⟨w3.heap.size, 1, none⟩ = some (.slice A5 n5 c5) := BJ.out.below HC.out 1 _ rfl
            go_wp2_with fail
            refine (at_of k2 _ _ _ (by first | exact RB.out.below HC.out | exact (RB.out.below HC.out).drew) (by first | exact RJ.out.below HC.out | exact (RJ.out.below HC.out).drew)).mono ?_
            rintro e wn1 ⟨rfl, hb⟩
            have HC' : Hid (Below wg.heap.size wg wn1) := Lib.hid (below_more HC.out hb)
            clear HC
            have HC := HC'
            clear HC' f0 f1 f2 f3 f4 f5 f6 f7 hb
            have f0 : wn1.cell? ⟨w1.heap.size, 0, none⟩ = some (.int .i64 l.base) := BA.out.below HC.out 0 _ rfl
            have f1 : wn1.cell? ⟨w1.heap.size, 1, none⟩ = some (.slice A1 n1 c1) := BA.out.below HC.out 1 _ rfl
            have f2 : wn1.cell? ⟨w1.heap.size + 1, 0, none⟩ = some (.int .i64 m.base) := BB.out.below HC.out 0 _ rfl
            have f3 : wn1.cell? ⟨w1.heap.size + 1, 1, none⟩ = some (.slice A2 n2 c2) := BB.out.below HC.out 1 _ rfl
            have f4 : wn1.cell? ⟨w2.heap.size, 0, none⟩ = some (.int .i64 o.base) := BC.out.below HC.out 0 _ rfl
            have f5 : wn1.cell? ⟨w2.heap.size, 1, none⟩ = some (.slice A3 n3 c3) := BC.out.below HC.out 1 _ rfl
            have f6 : wn1.cell? ⟨w3.heap.size, 0, none⟩ = some (.int .i64 x.base) := BJ.out.below HC.out 0 _ rfl
            have f7 : wn1.cell? ⟨w3.heap.size, 1, none⟩ = some (.slice A5 n5 c5) := BJ.out.below HC.out 1 _ rfl
            go_wp2_with fail
            refine (at_of k3 _ _ _ (by first | exact RA.out.below HC.out | exact (RA.out.below HC.out).drew) (by first | exact RC.out.below HC.out | exact (RC.out.below HC.out).drew)).mono ?_
            rintro e wn2 ⟨rfl, hb⟩
            have HC' : Hid (Below wg.heap.size wg wn2) := Lib.hid (below_more HC.out hb)
            clear HC
            have HC := HC'
            clear HC' f0 f1 f2 f3 f4 f5 f6 f7 hb
            have f0 : wn2.cell? ⟨w1.heap.size, 0, none⟩ = some (.int .i64 l.base) := BA.out.below HC.out 0 _ rfl
            have f1 : wn2.cell? ⟨w1.heap.size, 1, none⟩ = some (.slice A1 n1 c1) := BA.out.below HC.out 1 _ rfl
            have f2 : wn2.cell? ⟨w1.heap.size + 1, 0, none⟩ = some (.int .i64 m.base) := BB.out.below HC.out 0 _ rfl
            have f3 : wn2.cell? ⟨w1.heap.size + 1, 1, none⟩ = some (.slice A2 n2 c2) := BB.out.below HC.out 1 _ rfl
            have f4 : wn2.cell? ⟨w2.heap.size, 0, none⟩ = some (.int .i64 o.base) := BC.out.below HC.out 0 _ rfl
            have f5 : wn2.cell? ⟨w2.heap.size, 1, none⟩ = some (.slice A3 n3 c3) := BC.out.below HC.out 1 _ rfl
            have f6 : wn2.cell? ⟨w3.heap.size, 0, none⟩ = some (.int .i64 x.base) := BJ.out.below HC.out 0 _ rfl
            have f7 : wn2.cell? ⟨w3.heap.size, 1, none⟩ = some (.slice A5 n5 c5) := BJ.out.below HC.out 1 _ rfl
            go_wp2_with fail
            refine (at_of k4 _ _ _ (by first | exact RB.out.below HC.out | exact (RB.out.below HC.out).drew) (by first | exact RC.out.below HC.out | exact (RC.out.below HC.out).drew)).mono ?_
            rintro e wn3 ⟨rfl, hb⟩
            have HC' : Hid (Below wg.heap.size wg wn3) := Lib.hid (below_more HC.out hb)
            clear HC
            have HC := HC'
            clear HC' f0 f1 f2 f3 f4 f5 f6 f7 hb
            have f0 : wn3.cell? ⟨w1.heap.size, 0, none⟩ = some (.int .i64 l.base) := BA.out.below HC.out 0 _ rfl
            have f1 : wn3.cell? ⟨w1.heap.size, 1, none⟩ = some (.slice A1 n1 c1) := BA.out.below HC.out 1 _ rfl
            have f2 : wn3.cell? ⟨w1.heap.size + 1, 0, none⟩ = some (.int .i64 m.base) := BB.out.below HC.out 0 _ rfl
            have f3 : wn3.cell? ⟨w1.heap.size + 1, 1, none⟩ = some (.slice A2 n2 c2) := BB.out.below HC.out 1 _ rfl
            have f4 : wn3.cell? ⟨w2.heap.size, 0, none⟩ = some (.int .i64 o.base) := BC.out.below HC.out 0 _ rfl
            have f5 : wn3.cell? ⟨w2.heap.size, 1, none⟩ = some (.slice A3 n3 c3) := BC.out.below HC.out 1 _ rfl
            have f6 : wn3.cell? ⟨w3.heap.size, 0, none⟩ = some (.int .i64 x.base) := BJ.out.below HC.out 0 _ rfl
            have f7 : wn3.cell? ⟨w3.heap.size, 1, none⟩ = some (.slice A5 n5 c5) := BJ.out.below HC.out 1 _ rfl
            go_wp2_with fail
            refine (at_of k5 _ _ _ (by first | exact RJ.out.below HC.out | exact (RJ.out.below HC.out).drew) (by first | exact RC.out.below HC.out | exact (RC.out.below HC.out).drew)).mono ?_
            rintro e wn4 ⟨rfl, hb⟩
            have HC' : Hid (Below wg.heap.size wg wn4) := Lib.hid (below_more HC.out hb)
            clear HC
            have HC := HC'
            clear HC' f0 f1 f2 f3 f4 f5 f6 f7 hb
            have f0 : wn4.cell? ⟨w1.heap.size, 0, none⟩ = some (.int .i64 l.base) := BA.out.below HC.out 0 _ rfl
            have f1 : wn4.cell? ⟨w1.heap.size, 1, none⟩ = some (.slice A1 n1 c1) := BA.out.below HC.out 1 _ rfl
            have f2 : wn4.cell? ⟨w1.heap.size + 1, 0, none⟩ = some (.int .i64 m.base) := BB.out.below HC.out 0 _ rfl
            have f3 : wn4.cell? ⟨w1.heap.size + 1, 1, none⟩ = some (.slice A2 n2 c2) := BB.out.below HC.out 1 _ rfl
            have f4 : wn4.cell? ⟨w2.heap.size, 0, none⟩ = some (.int .i64 o.base) := BC.out.below HC.out 0 _ rfl
            have f5 : wn4.cell? ⟨w2.heap.size, 1, none⟩ = some (.slice A3 n3 c3) := BC.out.below HC.out 1 _ rfl
            have f6 : wn4.cell? ⟨w3.heap.size, 0, none⟩ = some (.int .i64 x.base) := BJ.out.below HC.out 0 _ rfl
            have f7 : wn4.cell? ⟨w3.heap.size, 1, none⟩ = some (.slice A5 n5 c5) := BJ.out.below HC.out 1 _ rfl
            go_wp2
            go_meet
            case rel => exact ⟨by simp, HC⟩
          · have f0 := BA.out.below HC.out 0 _ rfl
            have f1 := BA.out.below HC.out 1 _ rfl
            have f2 := BB.out.below HC.out 0 _ rfl
            have f3 := BB.out.below HC.out 1 _ rfl
            have f4 := BC.out.below HC.out 0 _ rfl
            have f5 := BC.out.below HC.out 1 _ rfl
            have f6 := BJ.out.below HC.out 0 _ rfl
            have f7 := BJ.out.below HC.out 1 _ rfl
            go_wp2_with fail
            refine (at_of k1 _ _ _ (by first | exact RA.out.below HC.out | exact (RA.out.below HC.out).drew) (by first | exact RJ.out.below HC.out | exact (RJ.out.below HC.out).drew)).mono ?_
            rintro e wn0 ⟨rfl, hb⟩
            have HC' : Hid (Below wg.heap.size wg wn0) := Lib.hid (below_more HC.out hb)
            clear HC
            have HC := HC'
            clear HC' f0 f1 f2 f3 f4 f5 f6 f7 hb
            have f0 : wn0.cell? ⟨w1.heap.size, 0, none⟩ = some (.int .i64 l.base) := BA.out.below HC.out 0 _ rfl
            have f1 : wn0.cell? ⟨w1.heap.size, 1, none⟩ = some (.slice A1 n1 c1) := BA.out.below HC.out 1 _ rfl
            have f2 : wn0.cell? ⟨w1.heap.size + 1, 0, none⟩ = some (.int .i64 m.base) := BB.out.below HC.out 0 _ rfl
            have f3 : wn0.cell? ⟨w1.heap.size + 1, 1, none⟩ = some (.slice A2 n2 c2) := BB.out.below HC.out 1 _ rfl
            have f4 : wn0.cell? ⟨w2.heap.size, 0, none⟩ = some (.int .i64 o.base) := BC.out.below HC.out 0 _ rfl
            have f5 : wn0.cell? ⟨w2.heap.size, 1, none⟩ = some (.slice A3 n3 c3) := BC.out.below HC.out 1 _ rfl
            have f6 : wn0.cell? ⟨w3.heap.size, 0, none⟩ = some (.int .i64 x.base) := BJ.out.below HC.out 0 _ rfl
            have f7 : wn0.cell? ⟨w3.heap.size, 1, none⟩ = some (.slice A5 n5 c5) := BJ.out.below HC.out 1 _ rfl
            go_wp2_with fail
            refine (at_of k2 _ _ _ (by first | exact RB.out.below HC.out | exact (RB.out.below HC.out).drew) (by first | exact RJ.out.below HC.out | exact (RJ.out.below HC.out).drew)).mono ?_
            rintro e wn1 ⟨rfl, hb⟩
            have HC' : Hid (Below wg.heap.size wg wn1) := Lib.hid (below_more HC.out hb)
            clear HC
            have HC := HC'
            clear HC' f0 f1 f2 f3 f4 f5 f6 f7 hb
            have f0 : wn1.cell? ⟨w1.heap.size, 0, none⟩ = some (.int .i64 l.base) := BA.out.below HC.out 0 _ rfl
            have f1 : wn1.cell? ⟨w1.heap.size, 1, none⟩ = some (.slice A1 n1 c1) := BA.out.below HC.out 1 _ rfl
            have f2 : wn1.cell? ⟨w1.heap.size + 1, 0, none⟩ = some (.int .i64 m.base) := BB.out.below HC.out 0 _ rfl
            have f3 : wn1.cell? ⟨w1.heap.size + 1, 1, none⟩ = some (.slice A2 n2 c2) := BB.out.below HC.out 1 _ rfl
            have f4 : wn1.cell? ⟨w2.heap.size, 0, none⟩ = some (.int .i64 o.base) := BC.out.below HC.out 0 _ rfl
            have f5 : wn1.cell? ⟨w2.heap.size, 1, none⟩ = some (.slice A3 n3 c3) := BC.out.below HC.out 1 _ rfl
            have f6 : wn1.cell? ⟨w3.heap.size, 0, none⟩ = some (.int .i64 x.base) := BJ.out.below HC.out 0 _ rfl
            have f7 : wn1.cell? ⟨w3.heap.size, 1, none⟩ = some (.slice A5 n5 c5) := BJ.out.below HC.out 1 _ rfl
            go_wp2_with fail
            refine (at_of k3 _ _ _ (by first | exact RA.out.below HC.out | exact (RA.out.below HC.out).drew) (by first | exact RC.out.below HC.out | exact (RC.out.below HC.out).drew)).mono ?_
            rintro e wn2 ⟨rfl, hb⟩
            have HC' : Hid (Below wg.heap.size wg wn2) := Lib.hid (below_more HC.out hb)
            clear HC
            have HC := HC'
            clear HC' f0 f1 f2 f3 f4 f5 f6 f7 hb
            have f0 : wn2.cell? ⟨w1.heap.size, 0, none⟩ = some (.int .i64 l.base) := BA.out.below HC.out 0 _ rfl
            have f1 : wn2.cell? ⟨w1.heap.size, 1, none⟩ = some (.slice A1 n1 c1) := BA.out.below HC.out 1 _ rfl
            have f2 : wn2.cell? ⟨w1.heap.size + 1, 0, none⟩ = some (.int .i64 m.base) := BB.out.below HC.out 0 _ rfl
            have f3 : wn2.cell? ⟨w1.heap.size + 1, 1, none⟩ = some (.slice A2 n2 c2) := BB.out.below HC.out 1 _ rfl
            have f4 : wn2.cell? ⟨w2.heap.size, 0, none⟩ = some (.int .i64 o.base) := BC.out.below HC.out 0 _ rfl
            have f5 : wn2.cell? ⟨w2.heap.size, 1, none⟩ = some (.slice A3 n3 c3) := BC.out.below HC.out 1 _ rfl
            have f6 : wn2.cell? ⟨w3.heap.size, 0, none⟩ = some (.int .i64 x.base) := BJ.out.below HC.out 0 _ rfl
            have f7 : wn2.cell? ⟨w3.heap.size, 1, none⟩ = some (.slice A5 n5 c5) := BJ.out.below HC.out 1 _ rfl
            go_wp2_with fail
            refine (at_of k4 _ _ _ (by first | exact RB.out.below HC.out | exact (RB.out.below HC.out).drew) (by first | exact RC.out.below HC.out | exact (RC.out.below HC.out).drew)).mono ?_
            rintro e wn3 ⟨rfl, hb⟩
            have HC' : Hid (Below wg.heap.size wg wn3) := Lib.hid (below_more HC.out hb)
            clear HC
            have HC := HC'
            clear HC' f0 f1 f2 f3 f4 f5 f6 f7 hb
            have f0 : wn3.cell? ⟨w1.heap.size, 0, none⟩ = some (.int .i64 l.base) := BA.out.below HC.out 0 _ rfl
            have f1 : wn3.cell? ⟨w1.heap.size, 1, none⟩ = some (.slice A1 n1 c1) := BA.out.below HC.out 1 _ rfl
            have f2 : wn3.cell? ⟨w1.heap.size + 1, 0, none⟩ = some (.int .i64 m.base) := BB.out.below HC.out 0 _ rfl
            have f3 : wn3.cell? ⟨w1.heap.size + 1, 1, none⟩ = some (.slice A2 n2 c2) := BB.out.below HC.out 1 _ rfl
            have f4 : wn3.cell? ⟨w2.heap.size, 0, none⟩ = some (.int .i64 o.base) := BC.out.below HC.out 0 _ rfl
            have f5 : wn3.cell? ⟨w2.heap.size, 1, none⟩ = some (.slice A3 n3 c3) := BC.out.below HC.out 1 _ rfl
            have f6 : wn3.cell? ⟨w3.heap.size, 0, none⟩ = some (.int .i64 x.base) := BJ.out.below HC.out 0 _ rfl
            have f7 : wn3.cell? ⟨w3.heap.size, 1, none⟩ = some (.slice A5 n5 c5) := BJ.out.below HC.out 1 _ rfl
            go_wp2
            go_meet
            case rel => exact ⟨by simp, HC⟩
        · have f0 := BA.out.below HC.out 0 _ rfl
          have f1 := BA.out.below HC.out 1 _ rfl
          have f2 := BB.out.below HC.out 0 _ rfl
          have f3 := BB.out.below HC.out 1 _ rfl
          have f4 := BC.out.below HC.out 0 _ rfl
          have f5 := BC.out.below HC.out 1 _ rfl
          have f6 := BJ.out.below HC.out 0 _ rfl
          have f7 := BJ.out.below HC.out 1 _ rfl
          go_wp2_with fail
          refine (at_of k1 _ _ _ (by first | exact RA.out.below HC.out | exact (RA.out.below HC.out).drew) (by first | exact RJ.out.below HC.out | exact (RJ.out.below HC.out).drew)).mono ?_
          rintro e wn0 ⟨rfl, hb⟩
          have HC' : Hid (Below wg.heap.size wg wn0) := Lib.hid (below_more HC.out hb)
          clear HC
          have HC := HC'
          clear HC' f0 f1 f2 f3 f4 f5 f6 f7 hb
          have f0 : wn0.cell? ⟨w1.heap.size, 0, none⟩ = some (.int .i64 l.base) := BA.out.below HC.out 0 _ rfl
          have f1 : wn0.cell? ⟨w1.heap.size, 1, none⟩ = some (.slice A1 n1 c1) := BA.out.below HC.out 1 _ rfl
          have f2 : wn0.cell? ⟨w1.heap.size + 1, 0, none⟩ = some (.int .i64 m.base) := BB.out.below HC.out 0 _ rfl
          have f3 : wn0.cell? ⟨w1.heap.size + 1, 1, none⟩ = some (.slice A2 n2 c2) := BB.out.below HC.out 1 _ rfl
          have f4 : wn0.cell? ⟨w2.heap.size, 0, none⟩ = some (.int .i64 o.base) := BC.out.below HC.out 0 _ rfl
          have f5 : wn0.cell? ⟨w2.heap.size, 1, none⟩ = some (.slice A3 n3 c3) := BC.out.below HC.out 1 _ rfl
          have f6 : wn0.cell? ⟨w3.heap.size, 0, none⟩ = some (.int .i64 x.base) := BJ.out.below HC.out 0 _ rfl
          have f7 : wn0.cell? ⟨w3.heap.size, 1, none⟩ = some (.slice A5 n5 c5) := BJ.out.below HC.out 1 _ rfl
          go_wp2_with fail
          refine (at_of k2 _ _ _ (by first | exact RB.out.below HC.out | exact (RB.out.below HC.out).drew) (by first | exact RJ.out.below HC.out | exact (RJ.out.below HC.out).drew)).mono ?_
          rintro e wn1 ⟨rfl, hb⟩
          have HC' : Hid (Below wg.heap.size wg wn1) := Lib.hid (below_more HC.out hb)
          clear HC
          have HC := HC'
          clear HC' f0 f1 f2 f3 f4 f5 f6 f7 hb
          have f0 : wn1.cell? ⟨w1.heap.size, 0, none⟩ = some (.int .i64 l.base) := BA.out.below HC.out 0 _ rfl
          have f1 : wn1.cell? ⟨w1.heap.size, 1, none⟩ = some (.slice A1 n1 c1) := BA.out.below HC.out 1 _ rfl
          have f2 : wn1.cell? ⟨w1.heap.size + 1, 0, none⟩ = some (.int .i64 m.base) := BB.out.below HC.out 0 _ rfl
          have f3 : wn1.cell? ⟨w1.heap.size + 1, 1, none⟩ = some (.slice A2 n2 c2) := BB.out.below HC.out 1 _ rfl
          have f4 : wn1.cell? ⟨w2.heap.size, 0, none⟩ = some (.int .i64 o.base) := BC.out.below HC.out 0 _ rfl
          have f5 : wn1.cell? ⟨w2.heap.size, 1, none⟩ = some (.slice A3 n3 c3) := BC.out.below HC.out 1 _ rfl
          have f6 : wn1.cell? ⟨w3.heap.size, 0, none⟩ = some (.int .i64 x.base) := BJ.out.below HC.out 0 _ rfl
          have f7 : wn1.cell? ⟨w3.heap.size, 1, none⟩ = some (.slice A5 n5 c5) := BJ.out.below HC.out 1 _ rfl
          go_wp2_with fail
          refine (at_of k3 _ _ _ (by first | exact RA.out.below HC.out | exact (RA.out.below HC.out).drew) (by first | exact RC.out.below HC.out | exact (RC.out.below HC.out).drew)).mono ?_
          rintro e wn2 ⟨rfl, hb⟩
          have HC' : Hid (Below wg.heap.size wg wn2) := Lib.hid (below_more HC.out hb)
          clear HC
          have HC := HC'
          clear HC' f0 f1 f2 f3 f4 f5 f6 f7 hb
          have f0 : wn2.cell? ⟨w1.heap.size, 0, none⟩ = some (.int .i64 l.base) := BA.out.below HC.out 0 _ rfl
          have f1 : wn2.cell? ⟨w1.heap.size, 1, none⟩ = some (.slice A1 n1 c1) := BA.out.below HC.out 1 _ rfl
          have f2 : wn2.cell? ⟨w1.heap.size + 1, 0, none⟩ = some (.int .i64 m.base) := BB.out.below HC.out 0 _ rfl
          have f3 : wn2.cell? ⟨w1.heap.size + 1, 1, none⟩ = some (.slice A2 n2 c2) := BB.out.below HC.out 1 _ rfl
          have f4 : wn2.cell? ⟨w2.heap.size, 0, none⟩ = some (.int .i64 o.base) := BC.out.below HC.out 0 _ rfl
          have f5 : wn2.cell? ⟨w2.heap.size, 1, none⟩ = some (.slice A3 n3 c3) := BC.out.below HC.out 1 _ rfl
          have f6 : wn2.cell? ⟨w3.heap.size, 0, none⟩ = some (.int .i64 x.base) := BJ.out.below HC.out 0 _ rfl
          have f7 : wn2.cell? ⟨w3.heap.size, 1, none⟩ = some (.slice A5 n5 c5) := BJ.out.below HC.out 1 _ rfl
          go_wp2
          go_meet
          case rel => exact ⟨by simp, HC⟩
    obtain ⟨rfl, HC'⟩ := hcut
    clear HC
    have HC := HC'
    clear HC'
    go_upto_region 13 with fail
    go_cut [146] (fun s wx => s = .bool false ∧ Hid (Below wg.heap.size wg wx))
    case first =>
      cases too
      · go_wp2
        go_meet
        case rel => exact ⟨by simp, HC⟩
      · obtain ⟨k1, k2, hh3⟩ := atMost_meet HM.out
        rcases Bool.eq_false_or_eq_true (atMost o l) with k3 | k3
        · rcases Bool.eq_false_or_eq_true (atMost o m) with k4 | k4
          · have k5 := hh3 o k3 k4
            have f0 := BA.out.below HC.out 0 _ rfl
            have f1 := BA.out.below HC.out 1 _ rfl
            have f2 := BB.out.below HC.out 0 _ rfl
            have f3 := BB.out.below HC.out 1 _ rfl
            have f4 := BC.out.below HC.out 0 _ rfl
            have f5 := BC.out.below HC.out 1 _ rfl
            have f6 := BM.out.below HC.out 0 _ rfl
            have f7 := BM.out.below HC.out 1 _ rfl
            go_wp2_with fail
            refine (at_of k1 _ _ _ (by first | exact RM.out.below HC.out | exact (RM.out.below HC.out).drew) (by first | exact RA.out.below HC.out | exact (RA.out.below HC.out).drew)).mono ?_
            rintro e wn0 ⟨rfl, hb⟩
            have HC' : Hid (Below wg.heap.size wg wn0) := Lib.hid (below_more HC.out hb)
            clear HC
            have HC := HC'
            clear HC' f0 f1 f2 f3 f4 f5 f6 f7 hb
            have f0 : wn0.cell? ⟨w1.heap.size, 0, none⟩ = some (.int .i64 l.base) := BA.out.below HC.out 0 _ rfl
            have f1 : wn0.cell? ⟨w1.heap.size, 1, none⟩ = some (.slice A1 n1 c1) := BA.out.below HC.out 1 _ rfl
            have f2 : wn0.cell? ⟨w1.heap.size + 1, 0, none⟩ = some (.int .i64 m.base) := BB.out.below HC.out 0 _ rfl
            have f3 : wn0.cell? ⟨w1.heap.size + 1, 1, none⟩ = some (.slice A2 n2 c2) := BB.out.below HC.out 1 _ rfl
            have f4 : wn0.cell? ⟨w2.heap.size, 0, none⟩ = some (.int .i64 o.base) := BC.out.below HC.out 0 _ rfl
            have f5 : wn0.cell? ⟨w2.heap.size, 1, none⟩ = some (.slice A3 n3 c3) := BC.out.below HC.out 1 _ rfl
            have f6 : wn0.cell? ⟨w5.heap.size, 0, none⟩ = some (.int .i64 y.base) := BM.out.below HC.out 0 _ rfl
            have f7 : wn0.cell? ⟨w5.heap.size, 1, none⟩ = some (.slice A7 n7 c7) := BM.out.below HC.out 1 _ rfl
            go_wp2_with fail
            refine (at_of k2 _ _ _ (by first | exact RM.out.below HC.out | exact (RM.out.below HC.out).drew) (by first | exact RB.out.below HC.out | exact (RB.out.below HC.out).drew)).mono ?_
            rintro e wn1 ⟨rfl, hb⟩
            have HC' : Hid (Below wg.heap.size wg wn1) := Lib.hid (below_more HC.out hb)
            clear HC
            have HC := HC'
            clear HC' f0 f1 f2 f3 f4 f5 f6 f7 hb
            have f0 : wn1.cell? ⟨w1.heap.size, 0, none⟩ = some (.int .i64 l.base) := BA.out.below HC.out 0 _ rfl
            have f1 : wn1.cell? ⟨w1.heap.size, 1, none⟩ = some (.slice A1 n1 c1) := BA.out.below HC.out 1 _ rfl
            have f2 : wn1.cell? ⟨w1.heap.size + 1, 0, none⟩ = some (.int .i64 m.base) := BB.out.below HC.out 0 _ rfl
            have f3 : wn1.cell? ⟨w1.heap.size + 1, 1, none⟩ = some (.slice A2 n2 c2) := BB.out.below HC.out 1 _ rfl
            have f4 : wn1.cell? ⟨w2.heap.size, 0, none⟩ = some (.int .i64 o.base) := BC.out.below HC.out 0 _ rfl
            have f5 : wn1.cell? ⟨w2.heap.size, 1, none⟩ = some (.slice A3 n3 c3) := BC.out.below HC.out 1 _ rfl
            have f6 : wn1.cell? ⟨w5.heap.size, 0, none⟩ = some (.int .i64 y.base) := BM.out.below HC.out 0 _ rfl
            have f7 : wn1.cell? ⟨w5.heap.size, 1, none⟩ = some (.slice A7 n7 c7) := BM.out.below HC.out 1 _ rfl
            go_wp2_with fail
            refine (at_of k3 _ _ _ (by first | exact RC.out.below HC.out | exact (RC.out.below HC.out).drew) (by first | exact RA.out.below HC.out | exact (RA.out.below HC.out).drew)).mono ?_
            rintro e wn2 ⟨rfl, hb⟩
            have HC' : Hid (Below wg.heap.size wg wn2) := Lib.hid (below_more HC.out hb)
            clear HC
            have HC := HC'
            clear HC' f0 f1 f2 f3 f4 f5 f6 f7 hb
            have f0 : wn2.cell? ⟨w1.heap.size, 0, none⟩ = some (.int .i64 l.base) := BA.out.below HC.out 0 _ rfl
            have f1 : wn2.cell? ⟨w1.heap.size, 1, none⟩ = some (.slice A1 n1 c1) := BA.out.below HC.out 1 _ rfl
            have f2 : wn2.cell? ⟨w1.heap.size + 1, 0, none⟩ = some (.int .i64 m.base) := BB.out.below HC.out 0 _ rfl
            have f3 : wn2.cell? ⟨w1.heap.size + 1, 1, none⟩ = some (.slice A2 n2 c2) := BB.out.below HC.out 1 _ rfl
            have f4 : wn2.cell? ⟨w2.heap.size, 0, none⟩ = some (.int .i64 o.base) := BC.out.below HC.out 0 _ rfl
            have f5 : wn2.cell? ⟨w2.heap.size, 1, none⟩ = some (.slice A3 n3 c3) := BC.out.below HC.out 1 _ rfl
            have f6 : wn2.cell? ⟨w5.heap.size, 0, none⟩ = some (.int .i64 y.base) := BM.out.below HC.out 0 _ rfl
            have f7 : wn2.cell? ⟨w5.heap.size, 1, none⟩ = some (.slice A7 n7 c7) := BM.out.below HC.out 1 _ rfl
            go_wp2_with fail
            refine (at_of k4 _ _ _ (by first | exact RC.out.below HC.out | exact (RC.out.below HC.out).drew) (by first | exact RB.out.below HC.out | exact (RB.out.below HC.out).drew)).mono ?_
            rintro e wn3 ⟨rfl, hb⟩
            have HC' : Hid (Below wg.heap.size wg wn3) := Lib.hid (below_more HC.out hb)
            clear HC
            have HC := HC'
            clear HC' f0 f1 f2 f3 f4 f5 f6 f7 hb
            have f0 : wn3.cell? ⟨w1.heap.size, 0, none⟩ = some (.int .i64 l.base) := BA.out.below HC.out 0 _ rfl
            have f1 : wn3.cell? ⟨w1.heap.size, 1, none⟩ = some (.slice A1 n1 c1) := BA.out.below HC.out 1 _ rfl
            have f2 : wn3.cell? ⟨w1.heap.size + 1, 0, none⟩ = some (.int .i64 m.base) := BB.out.below HC.out 0 _ rfl
            have f3 : wn3.cell? ⟨w1.heap.size + 1, 1, none⟩ = some (.slice A2 n2 c2) := BB.out.below HC.out 1 _ rfl
            have f4 : wn3.cell? ⟨w2.heap.size, 0, none⟩ = some (.int .i64 o.base) := BC.out.below HC.out 0 _ rfl
            have f5 : wn3.cell? ⟨w2.heap.size, 1, none⟩ = some (.slice A3 n3 c3) := BC.out.below HC.out 1 _ rfl
            have f6 : wn3.cell? ⟨w5.heap.size, 0, none⟩ = some (.int .i64 y.base) := BM.out.below HC.out 0 _ rfl
            have f7 : wn3.cell? ⟨w5.heap.size, 1, none⟩ = some (.slice A7 n7 c7) := BM.out.below HC.out 1 _ rfl
            go_wp2_with fail
            refine (at_of k5 _ _ _ (by first | exact RC.out.below HC.out | exact (RC.out.below HC.out).drew) (by first | exact RM.out.below HC.out | exact (RM.out.below HC.out).drew)).mono ?_
            rintro e wn4 ⟨rfl, hb⟩
            have HC' : Hid (Below wg.heap.size wg wn4) := Lib.hid (below_more HC.out hb)
            clear HC
            have HC := HC'
            clear HC' f0 f1 f2 f3 f4 f5 f6 f7 hb
            have f0 : wn4.cell? ⟨w1.heap.size, 0, none⟩ = some (.int .i64 l.base) := BA.out.below HC.out 0 _ rfl
            have f1 : wn4.cell? ⟨w1.heap.size, 1, none⟩ = some (.slice A1 n1 c1) := BA.out.below HC.out 1 _ rfl
            have f2 : wn4.cell? ⟨w1.heap.size + 1, 0, none⟩ = some (.int .i64 m.base) := BB.out.below HC.out 0 _ rfl
            have f3 : wn4.cell? ⟨w1.heap.size + 1, 1, none⟩ = some (.slice A2 n2 c2) := BB.out.below HC.out 1 _ rfl
            have f4 : wn4.cell? ⟨w2.heap.size, 0, none⟩ = some (.int .i64 o.base) := BC.out.below HC.out 0 _ rfl
            have f5 : wn4.cell? ⟨w2.heap.size, 1, none⟩ = some (.slice A3 n3 c3) := BC.out.below HC.out 1 _ rfl
            have f6 : wn4.cell? ⟨w5.heap.size, 0, none⟩ = some (.int .i64 y.base) := BM.out.below HC.out 0 _ rfl
            have f7 : wn4.cell? ⟨w5.heap.size, 1, none⟩ = some (.slice A7 n7 c7) := BM.out.below HC.out 1 _ rfl
            go_wp2
            go_meet
            case rel => exact ⟨by simp, HC⟩
          · have f0 := BA.out.below HC.out 0 _ rfl
            have f1 := BA.out.below HC.out 1 _ rfl
            have f2 := BB.out.below HC.out 0 _ rfl
            have f3 := BB.out.below HC.out 1 _ rfl
            have f4 := BC.out.below HC.out 0 _ rfl
            have f5 := BC.out.below HC.out 1 _ rfl
            have f6 := BM.out.below HC.out 0 _ rfl
            have f7 := BM.out.below HC.out 1 _ rfl
            go_wp2_with fail
            refine (at_of k1 _ _ _ (by first | exact RM.out.below HC.out | exact (RM.out.below HC.out).drew) (by first | exact RA.out.below HC.out | exact (RA.out.below HC.out).drew)).mono ?_
            rintro e wn0 ⟨rfl, hb⟩
            have HC' : Hid (Below wg.heap.size wg wn0) := Lib.hid (below_more HC.out hb)
            clear HC
            have HC := HC'
            clear HC' f0 f1 f2 f3 f4 f5 f6 f7 hb
            have f0 : wn0.cell? ⟨w1.heap.size, 0, none⟩ = some (.int .i64 l.base) := BA.out.below HC.out 0 _ rfl
            have f1 : wn0.cell? ⟨w1.heap.size, 1, none⟩ = some (.slice A1 n1 c1) := BA.out.below HC.out 1 _ rfl
            have f2 : wn0.cell? ⟨w1.heap.size + 1, 0, none⟩ = some (.int .i64 m.base) := BB.out.below HC.out 0 _ rfl
            have f3 : wn0.cell? ⟨w1.heap.size + 1, 1, none⟩ = some (.slice A2 n2 c2) := BB.out.below HC.out 1 _ rfl
            have f4 : wn0.cell? ⟨w2.heap.size, 0, none⟩ = some (.int .i64 o.base) := BC.out.below HC.out 0 _ rfl
            have f5 : wn0.cell? ⟨w2.heap.size, 1, none⟩ = some (.slice A3 n3 c3) := BC.out.below HC.out 1 _ rfl
            have f6 : wn0.cell? ⟨w5.heap.size, 0, none⟩ = some (.int .i64 y.base) := BM.out.below HC.out 0 _ rfl
            have f7 : wn0.cell? ⟨w5.heap.size, 1, none⟩ = some (.slice A7 n7 c7) := BM.out.below HC.out 1 _ rfl
            go_wp2_with fail
            refine (at_of k2 _ _ _ (by first | exact RM.out.below HC.out | exact (RM.out.below HC.out).drew) (by first | exact RB.out.below HC.out | exact (RB.out.below HC.out).drew)).mono ?_
            rintro e wn1 ⟨rfl, hb⟩
            have HC' : Hid (Below wg.heap.size wg wn1) := Lib.hid (below_more HC.out hb)
            clear HC
            have HC := HC'
            clear HC' f0 f1 f2 f3 f4 f5 f6 f7 hb
            have f0 : wn1.cell? ⟨w1.heap.size, 0, none⟩ = some (.int .i64 l.base) := BA.out.below HC.out 0 _ rfl
            have f1 : wn1.cell? ⟨w1.heap.size, 1, none⟩ = some (.slice A1 n1 c1) := BA.out.below HC.out 1 _ rfl
            have f2 : wn1.cell? ⟨w1.heap.size + 1, 0, none⟩ = some (.int .i64 m.base) := BB.out.below HC.out 0 _ rfl
            have f3 : wn1.cell? ⟨w1.heap.size + 1, 1, none⟩ = some (.slice A2 n2 c2) := BB.out.below HC.out 1 _ rfl
            have f4 : wn1.cell? ⟨w2.heap.size, 0, none⟩ = some (.int .i64 o.base) := BC.out.below HC.out 0 _ rfl
            have f5 : wn1.cell? ⟨w2.heap.size, 1, none⟩ = some (.slice A3 n3 c3) := BC.out.below HC.out 1 _ rfl
            have f6 : wn1.cell? ⟨w5.heap.size, 0, none⟩ = some (.int .i64 y.base) := BM.out.below HC.out 0 _ rfl
            have f7 : wn1.cell? ⟨w5.heap.size, 1, none⟩ = some (.slice A7 n7 c7) := BM.out.below HC.out 1 _ rfl
            go_wp2_with fail
            refine (at_of k3 _ _ _ (by first | exact RC.out.below HC.out | exact (RC.out.below HC.out).drew) (by first | exact RA.out.below HC.out | exact (RA.out.below HC.out).drew)).mono ?_
            rintro e wn2 ⟨rfl, hb⟩
            have HC' : Hid (Below wg.heap.size wg wn2) := Lib.hid (below_more HC.out hb)
            clear HC
            have HC := HC'
            clear HC' f0 f1 f2 f3 f4 f5 f6 f7 hb
            have f0 : wn2.cell? ⟨w1.heap.size, 0, none⟩ = some (.int .i64 l.base) := BA.out.below HC.out 0 _ rfl
            have f1 : wn2.cell? ⟨w1.heap.size, 1, none⟩ = some (.slice A1 n1 c1) := BA.out.below HC.out 1 _ rfl
            have f2 : wn2.cell? ⟨w1.heap.size + 1, 0, none⟩ = some (.int .i64 m.base) := BB.out.below HC.out 0 _ rfl
            have f3 : wn2.cell? ⟨w1.heap.size + 1, 1, none⟩ = some (.slice A2 n2 c2) := BB.out.below HC.out 1 _ rfl
            have f4 : wn2.cell? ⟨w2.heap.size, 0, none⟩ = some (.int .i64 o.base) := BC.out.below HC.out 0 _ rfl
            have f5 : wn2.cell? ⟨w2.heap.size, 1, none⟩ = some (.slice A3 n3 c3) := BC.out.below HC.out 1 _ rfl
            have f6 : wn2.cell? ⟨w5.heap.size, 0, none⟩ = some (.int .i64 y.base) := BM.out.below HC.out 0 _ rfl
            have f7 : wn2.cell? ⟨w5.heap.size, 1, none⟩ = some (.slice A7 n7 c7) := BM.out.below HC.out 1 _ rfl
            go_wp2_with fail
            refine (at_of k4 _ _ _ (by first | exact RC.out.below HC.out | exact (RC.out.below HC.out).drew) (by first | exact RB.out.below HC.out | exact (RB.out.below HC.out).drew)).mono ?_
            rintro e wn3 ⟨rfl, hb⟩
            have HC' : Hid (Below wg.heap.size wg wn3) := Lib.hid (below_more HC.out hb)
            clear HC
            have HC := HC'
            clear HC' f0 f1 f2 f3 f4 f5 f6 f7 hb
            have f0 : wn3.cell? ⟨w1.heap.size, 0, none⟩ = some (.int .i64 l.base) := BA.out.below HC.out 0 _ rfl
            have f1 : wn3.cell? ⟨w1.heap.size, 1, none⟩ = some (.slice A1 n1 c1) := BA.out.below HC.out 1 _ rfl
            have f2 : wn3.cell? ⟨w1.heap.size + 1, 0, none⟩ = some (.int .i64 m.base) := BB.out.below HC.out 0 _ rfl
            have f3 : wn3.cell? ⟨w1.heap.size + 1, 1, none⟩ = some (.slice A2 n2 c2) := BB.out.below HC.out 1 _ rfl
            have f4 : wn3.cell? ⟨w2.heap.size, 0, none⟩ = some (.int .i64 o.base) := BC.out.below HC.out 0 _ rfl
            have f5 : wn3.cell? ⟨w2.heap.size, 1, none⟩ = some (.slice A3 n3 c3) := BC.out.below HC.out 1 _ rfl
            have f6 : wn3.cell? ⟨w5.heap.size, 0, none⟩ = some (.int .i64 y.base) := BM.out.below HC.out 0 _ rfl
            have f7 : wn3.cell? ⟨w5.heap.size, 1, none⟩ = some (.slice A7 n7 c7) := BM.out.below HC.out 1 _ rfl
            go_wp2
            go_meet
            case rel => exact ⟨by simp, HC⟩
        · have f0 := BA.out.below HC.out 0 _ rfl
          have f1 := BA.out.below HC.out 1 _ rfl
          have f2 := BB.out.below HC.out 0 _ rfl
          have f3 := BB.out.below HC.out 1 _ rfl
          have f4 := BC.out.below HC.out 0 _ rfl
          have f5 := BC.out.below HC.out 1 _ rfl
          have f6 := BM.out.below HC.out 0 _ rfl
          have f7 := BM.out.below HC.out 1 _ rfl
          go_wp2_with fail
          refine (at_of k1 _ _ _ (by first | exact RM.out.below HC.out | exact (RM.out.below HC.out).drew) (by first | exact RA.out.below HC.out | exact (RA.out.below HC.out).drew)).mono ?_
          rintro e wn0 ⟨rfl, hb⟩
          have HC' : Hid (Below wg.heap.size wg wn0) := Lib.hid (below_more HC.out hb)
          clear HC
          have HC := HC'
          clear HC' f0 f1 f2 f3 f4 f5 f6 f7 hb
          have f0 : wn0.cell? ⟨w1.heap.size, 0, none⟩ = some (.int .i64 l.base) := BA.out.below HC.out 0 _ rfl
          have f1 : wn0.cell? ⟨w1.heap.size, 1, none⟩ = some (.slice A1 n1 c1) := BA.out.below HC.out 1 _ rfl
          have f2 : wn0.cell? ⟨w1.heap.size + 1, 0, none⟩ = some (.int .i64 m.base) := BB.out.below HC.out 0 _ rfl
          have f3 : wn0.cell? ⟨w1.heap.size + 1, 1, none⟩ = some (.slice A2 n2 c2) := BB.out.below HC.out 1 _ rfl
          have f4 : wn0.cell? ⟨w2.heap.size, 0, none⟩ = some (.int .i64 o.base) := BC.out.below HC.out 0 _ rfl
          have f5 : wn0.cell? ⟨w2.heap.size, 1, none⟩ = some (.slice A3 n3 c3) := BC.out.below HC.out 1 _ rfl
          have f6 : wn0.cell? ⟨w5.heap.size, 0, none⟩ = some (.int .i64 y.base) := BM.out.below HC.out 0 _ rfl
          have f7 : wn0.cell? ⟨w5.heap.size, 1, none⟩ = some (.slice A7 n7 c7) := BM.out.below HC.out 1 _ rfl
          go_wp2_with fail
          refine (at_of k2 _ _ _ (by first | exact RM.out.below HC.out | exact (RM.out.below HC.out).drew) (by first | exact RB.out.below HC.out | exact (RB.out.below HC.out).drew)).mono ?_
          rintro e wn1 ⟨rfl, hb⟩
          have HC' : Hid (Below wg.heap.size wg wn1) := Lib.hid (below_more HC.out hb)
          clear HC
          have HC := HC'
          clear HC' f0 f1 f2 f3 f4 f5 f6 f7 hb
          have f0 : wn1.cell? ⟨w1.heap.size, 0, none⟩ = some (.int .i64 l.base) := BA.out.below HC.out 0 _ rfl
          have f1 : wn1.cell? ⟨w1.heap.size, 1, none⟩ = some (.slice A1 n1 c1) := BA.out.below HC.out 1 _ rfl
          have f2 : wn1.cell? ⟨w1.heap.size + 1, 0, none⟩ = some (.int .i64 m.base) := BB.out.below HC.out 0 _ rfl
          have f3 : wn1.cell? ⟨w1.heap.size + 1, 1, none⟩ = some (.slice A2 n2 c2) := BB.out.below HC.out 1 _ rfl
          have f4 : wn1.cell? ⟨w2.heap.size, 0, none⟩ = some (.int .i64 o.base) := BC.out.below HC.out 0 _ rfl
          have f5 : wn1.cell? ⟨w2.heap.size, 1, none⟩ = some (.slice A3 n3 c3) := BC.out.below HC.out 1 _ rfl
          have f6 : wn1.cell? ⟨w5.heap.size, 0, none⟩ = some (.int .i64 y.base) := BM.out.below HC.out 0 _ rfl
          have f7 : wn1.cell? ⟨w5.heap.size, 1, none⟩ = some (.slice A7 n7 c7) := BM.out.below HC.out 1 _ rfl
          go_wp2_with fail
          refine (at_of k3 _ _ _ (by first | exact RC.out.below HC.out | exact (RC.out.below HC.out).drew) (by first | exact RA.out.below HC.out | exact (RA.out.below HC.out).drew)).mono ?_
          rintro e wn2 ⟨rfl, hb⟩
          have HC' : Hid (Below wg.heap.size wg wn2) := Lib.hid (below_more HC.out hb)
          clear HC
          have HC := HC'
          clear HC' f0 f1 f2 f3 f4 f5 f6 f7 hb
          have f0 : wn2.cell? ⟨w1.heap.size, 0, none⟩ = some (.int .i64 l.base) := BA.out.below HC.out 0 _ rfl
          have f1 : wn2.cell? ⟨w1.heap.size, 1, none⟩ = some (.slice A1 n1 c1) := BA.out.below HC.out 1 _ rfl
          have f2 : wn2.cell? ⟨w1.heap.size + 1, 0, none⟩ = some (.int .i64 m.base) := BB.out.below HC.out 0 _ rfl
          have f3 : wn2.cell? ⟨w1.heap.size + 1, 1, none⟩ = some (.slice A2 n2 c2) := BB.out.below HC.out 1 _ rfl
          have f4 : wn2.cell? ⟨w2.heap.size, 0, none⟩ = some (.int .i64 o.base) := BC.out.below HC.out 0 _ rfl
          have f5 : wn2.cell? ⟨w2.heap.size, 1, none⟩ = some (.slice A3 n3 c3) := BC.out.below HC.out 1 _ rfl
          have f6 : wn2.cell? ⟨w5.heap.size, 0, none⟩ = some (.int .i64 y.base) := BM.out.below HC.out 0 _ rfl
          have f7 : wn2.cell? ⟨w5.heap.size, 1, none⟩ = some (.slice A7 n7 c7) := BM.out.below HC.out 1 _ rfl
          go_wp2
          go_meet
          case rel => exact ⟨by simp, HC⟩
    obtain ⟨rfl, HC'⟩ := hcut
    clear HC
    have HC := HC'
    clear HC'
    clear BJ BM RJ RM HJ HM
    go_upto_region 15 with fail
    go_cut [160] (fun s wx => s = .bool false ∧ Hid (Below wg.heap.size wg wx))
    case first =>
      rcases Bool.eq_false_or_eq_true (atMost l m) with k1 | k1
      · rcases Bool.eq_false_or_eq_true (atMost m o) with k2 | k2
        · have k3 := atMost_trans k1 k2
          have f0 := BA.out.below HC.out 0 _ rfl
          have f1 := BA.out.below HC.out 1 _ rfl
          have f2 := BB.out.below HC.out 0 _ rfl
          have f3 := BB.out.below HC.out 1 _ rfl
          have f4 := BC.out.below HC.out 0 _ rfl
          have f5 := BC.out.below HC.out 1 _ rfl
          go_wp2_with fail
          refine (at_of k1 _ _ _ (by first | exact RA.out.below HC.out | exact (RA.out.below HC.out).drew) (by first | exact RB.out.below HC.out | exact (RB.out.below HC.out).drew)).mono ?_
          rintro e wn0 ⟨rfl, hb⟩
          have HC' : Hid (Below wg.heap.size wg wn0) := Lib.hid (below_more HC.out hb)
          clear HC
          have HC := HC'
          clear HC' f0 f1 f2 f3 f4 f5 hb
          have f0 : wn0.cell? ⟨w1.heap.size, 0, none⟩ = some (.int .i64 l.base) := BA.out.below HC.out 0 _ rfl
          have f1 : wn0.cell? ⟨w1.heap.size, 1, none⟩ = some (.slice A1 n1 c1) := BA.out.below HC.out 1 _ rfl
          have f2 : wn0.cell? ⟨w1.heap.size + 1, 0, none⟩ = some (.int .i64 m.base) := BB.out.below HC.out 0 _ rfl
          have f3 : wn0.cell? ⟨w1.heap.size + 1, 1, none⟩ = some (.slice A2 n2 c2) := BB.out.below HC.out 1 _ rfl
          have f4 : wn0.cell? ⟨w2.heap.size, 0, none⟩ = some (.int .i64 o.base) := BC.out.below HC.out 0 _ rfl
          have f5 : wn0.cell? ⟨w2.heap.size, 1, none⟩ = some (.slice A3 n3 c3) := BC.out.below HC.out 1 _ rfl
          go_wp2_with fail
          refine (at_of k2 _ _ _ (by first | exact RB.out.below HC.out | exact (RB.out.below HC.out).drew) (by first | exact RC.out.below HC.out | exact (RC.out.below HC.out).drew)).mono ?_
          rintro e wn1 ⟨rfl, hb⟩
          have HC' : Hid (Below wg.heap.size wg wn1) := Lib.hid (below_more HC.out hb)
          clear HC
          have HC := HC'
          clear HC' f0 f1 f2 f3 f4 f5 hb
          have f0 : wn1.cell? ⟨w1.heap.size, 0, none⟩ = some (.int .i64 l.base) := BA.out.below HC.out 0 _ rfl
          have f1 : wn1.cell? ⟨w1.heap.size, 1, none⟩ = some (.slice A1 n1 c1) := BA.out.below HC.out 1 _ rfl
          have f2 : wn1.cell? ⟨w1.heap.size + 1, 0, none⟩ = some (.int .i64 m.base) := BB.out.below HC.out 0 _ rfl
          have f3 : wn1.cell? ⟨w1.heap.size + 1, 1, none⟩ = some (.slice A2 n2 c2) := BB.out.below HC.out 1 _ rfl
          have f4 : wn1.cell? ⟨w2.heap.size, 0, none⟩ = some (.int .i64 o.base) := BC.out.below HC.out 0 _ rfl
          have f5 : wn1.cell? ⟨w2.heap.size, 1, none⟩ = some (.slice A3 n3 c3) := BC.out.below HC.out 1 _ rfl
          go_wp2_with fail
          refine (at_of k3 _ _ _ (by first | exact RA.out.below HC.out | exact (RA.out.below HC.out).drew) (by first | exact RC.out.below HC.out | exact (RC.out.below HC.out).drew)).mono ?_
          rintro e wn2 ⟨rfl, hb⟩
          have HC' : Hid (Below wg.heap.size wg wn2) := Lib.hid (below_more HC.out hb)
          clear HC
          have HC := HC'
          clear HC' f0 f1 f2 f3 f4 f5 hb
          have f0 : wn2.cell? ⟨w1.heap.size, 0, none⟩ = some (.int .i64 l.base) := BA.out.below HC.out 0 _ rfl
          have f1 : wn2.cell? ⟨w1.heap.size, 1, none⟩ = some (.slice A1 n1 c1) := BA.out.below HC.out 1 _ rfl
          have f2 : wn2.cell? ⟨w1.heap.size + 1, 0, none⟩ = some (.int .i64 m.base) := BB.out.below HC.out 0 _ rfl
          have f3 : wn2.cell? ⟨w1.heap.size + 1, 1, none⟩ = some (.slice A2 n2 c2) := BB.out.below HC.out 1 _ rfl
          have f4 : wn2.cell? ⟨w2.heap.size, 0, none⟩ = some (.int .i64 o.base) := BC.out.below HC.out 0 _ rfl
          have f5 : wn2.cell? ⟨w2.heap.size, 1, none⟩ = some (.slice A3 n3 c3) := BC.out.below HC.out 1 _ rfl
          go_wp2
          go_meet
          case rel => exact ⟨by simp, HC⟩
        · have f0 := BA.out.below HC.out 0 _ rfl
          have f1 := BA.out.below HC.out 1 _ rfl
          have f2 := BB.out.below HC.out 0 _ rfl
          have f3 := BB.out.below HC.out 1 _ rfl
          have f4 := BC.out.below HC.out 0 _ rfl
          have f5 := BC.out.below HC.out 1 _ rfl
          go_wp2_with fail
          refine (at_of k1 _ _ _ (by first | exact RA.out.below HC.out | exact (RA.out.below HC.out).drew) (by first | exact RB.out.below HC.out | exact (RB.out.below HC.out).drew)).mono ?_
          rintro e wn0 ⟨rfl, hb⟩
          have HC' : Hid (Below wg.heap.size wg wn0) := Lib.hid (below_more HC.out hb)
          clear HC
          have HC := HC'
          clear HC' f0 f1 f2 f3 f4 f5 hb
          have f0 : wn0.cell? ⟨w1.heap.size, 0, none⟩ = some (.int .i64 l.base) := BA.out.below HC.out 0 _ rfl
          have f1 : wn0.cell? ⟨w1.heap.size, 1, none⟩ = some (.slice A1 n1 c1) := BA.out.below HC.out 1 _ rfl
          have f2 : wn0.cell? ⟨w1.heap.size + 1, 0, none⟩ = some (.int .i64 m.base) := BB.out.below HC.out 0 _ rfl
          have f3 : wn0.cell? ⟨w1.heap.size + 1, 1, none⟩ = some (.slice A2 n2 c2) := BB.out.below HC.out 1 _ rfl
          have f4 : wn0.cell? ⟨w2.heap.size, 0, none⟩ = some (.int .i64 o.base) := BC.out.below HC.out 0 _ rfl
          have f5 : wn0.cell? ⟨w2.heap.size, 1, none⟩ = some (.slice A3 n3 c3) := BC.out.below HC.out 1 _ rfl
          go_wp2_with fail
          refine (at_of k2 _ _ _ (by first | exact RB.out.below HC.out | exact (RB.out.below HC.out).drew) (by first | exact RC.out.below HC.out | exact (RC.out.below HC.out).drew)).mono ?_
          rintro e wn1 ⟨rfl, hb⟩
          have HC' : Hid (Below wg.heap.size wg wn1) := Lib.hid (below_more HC.out hb)
          clear HC
          have HC := HC'
          clear HC' f0 f1 f2 f3 f4 f5 hb
          have f0 : wn1.cell? ⟨w1.heap.size, 0, none⟩ = some (.int .i64 l.base) := BA.out.below HC.out 0 _ rfl
          have f1 : wn1.cell? ⟨w1.heap.size, 1, none⟩ = some (.slice A1 n1 c1) := BA.out.below HC.out 1 _ rfl
          have f2 : wn1.cell? ⟨w1.heap.size + 1, 0, none⟩ = some (.int .i64 m.base) := BB.out.below HC.out 0 _ rfl
          have f3 : wn1.cell? ⟨w1.heap.size + 1, 1, none⟩ = some (.slice A2 n2 c2) := BB.out.below HC.out 1 _ rfl
          have f4 : wn1.cell? ⟨w2.heap.size, 0, none⟩ = some (.int .i64 o.base) := BC.out.below HC.out 0 _ rfl
          have f5 : wn1.cell? ⟨w2.heap.size, 1, none⟩ = some (.slice A3 n3 c3) := BC.out.below HC.out 1 _ rfl
          go_wp2
          go_meet
          case rel => exact ⟨by simp, HC⟩
      · have f0 := BA.out.below HC.out 0 _ rfl
        have f1 := BA.out.below HC.out 1 _ rfl
        have f2 := BB.out.below HC.out 0 _ rfl
        have f3 := BB.out.below HC.out 1 _ rfl
        have f4 := BC.out.below HC.out 0 _ rfl
        have f5 := BC.out.below HC.out 1 _ rfl
        go_wp2_with fail
        refine (at_of k1 _ _ _ (by first | exact RA.out.below HC.out | exact (RA.out.below HC.out).drew) (by first | exact RB.out.below HC.out | exact (RB.out.below HC.out).drew)).mono ?_
        rintro e wn0 ⟨rfl, hb⟩
        have HC' : Hid (Below wg.heap.size wg wn0) := Lib.hid (below_more HC.out hb)
        clear HC
        have HC := HC'
        clear HC' f0 f1 f2 f3 f4 f5 hb
        have f0 : wn0.cell? ⟨w1.heap.size, 0, none⟩ = some (.int .i64 l.base) := BA.out.below HC.out 0 _ rfl
        have f1 : wn0.cell? ⟨w1.heap.size, 1, none⟩ = some (.slice A1 n1 c1) := BA.out.below HC.out 1 _ rfl
        have f2 : wn0.cell? ⟨w1.heap.size + 1, 0, none⟩ = some (.int .i64 m.base) := BB.out.below HC.out 0 _ rfl
        have f3 : wn0.cell? ⟨w1.heap.size + 1, 1, none⟩ = some (.slice A2 n2 c2) := BB.out.below HC.out 1 _ rfl
        have f4 : wn0.cell? ⟨w2.heap.size, 0, none⟩ = some (.int .i64 o.base) := BC.out.below HC.out 0 _ rfl
        have f5 : wn0.cell? ⟨w2.heap.size, 1, none⟩ = some (.slice A3 n3 c3) := BC.out.below HC.out 1 _ rfl
        go_wp2
        go_meet
        case rel => exact ⟨by simp, HC⟩
    obtain ⟨rfl, HC'⟩ := hcut
    clear HC
    have HC := HC'
    clear HC'
    go_upto_region 17 with fail
    rcases Bool.eq_false_or_eq_true (atMost l m) with k1 | k1
    · rcases Bool.eq_false_or_eq_true (atMost m l) with k2 | k2
      · have K3 := Lib.hid (atMost_antisymm k1 k2)
        have f0 := BA.out.below HC.out 0 _ rfl
        have f1 := BA.out.below HC.out 1 _ rfl
        have f2 := BB.out.below HC.out 0 _ rfl
        have f3 := BB.out.below HC.out 1 _ rfl
        go_wp2_with fail
        refine (at_of k1 _ _ _ (by first | exact RA.out.below HC.out | exact (RA.out.below HC.out).drew) (by first | exact RB.out.below HC.out | exact (RB.out.below HC.out).drew)).mono ?_
        rintro e wn0 ⟨rfl, hb⟩
        have HC' : Hid (Below wg.heap.size wg wn0) := Lib.hid (below_more HC.out hb)
        clear HC
        have HC := HC'
        clear HC' f0 f1 f2 f3 hb
        have f0 : wn0.cell? ⟨w1.heap.size, 0, none⟩ = some (.int .i64 l.base) := BA.out.below HC.out 0 _ rfl
        have f1 : wn0.cell? ⟨w1.heap.size, 1, none⟩ = some (.slice A1 n1 c1) := BA.out.below HC.out 1 _ rfl
        have f2 : wn0.cell? ⟨w1.heap.size + 1, 0, none⟩ = some (.int .i64 m.base) := BB.out.below HC.out 0 _ rfl
        have f3 : wn0.cell? ⟨w1.heap.size + 1, 1, none⟩ = some (.slice A2 n2 c2) := BB.out.below HC.out 1 _ rfl
        go_wp2_with fail
        refine (at_of k2 _ _ _ (by first | exact RB.out.below HC.out | exact (RB.out.below HC.out).drew) (by first | exact RA.out.below HC.out | exact (RA.out.below HC.out).drew)).mono ?_
        rintro e wn1 ⟨rfl, hb⟩
        have HC' : Hid (Below wg.heap.size wg wn1) := Lib.hid (below_more HC.out hb)
        clear HC
        have HC := HC'
        clear HC' f0 f1 f2 f3 hb
        have f0 : wn1.cell? ⟨w1.heap.size, 0, none⟩ = some (.int .i64 l.base) := BA.out.below HC.out 0 _ rfl
        have f1 : wn1.cell? ⟨w1.heap.size, 1, none⟩ = some (.slice A1 n1 c1) := BA.out.below HC.out 1 _ rfl
        have f2 : wn1.cell? ⟨w1.heap.size + 1, 0, none⟩ = some (.int .i64 m.base) := BB.out.below HC.out 0 _ rfl
        have f3 : wn1.cell? ⟨w1.heap.size + 1, 1, none⟩ = some (.slice A2 n2 c2) := BB.out.below HC.out 1 _ rfl
        go_wp2_with fail
        refine (like_of K3.out _ _ _ (by first | exact RA.out.below HC.out | exact (RA.out.below HC.out).drew) (by first | exact RB.out.below HC.out | exact (RB.out.below HC.out).drew)).mono ?_
        rintro e wn2 ⟨rfl, hb⟩
        have HC' : Hid (Below wg.heap.size wg wn2) := Lib.hid (below_more HC.out hb)
        clear HC
        have HC := HC'
        clear HC' f0 f1 f2 f3 hb
        have f0 : wn2.cell? ⟨w1.heap.size, 0, none⟩ = some (.int .i64 l.base) := BA.out.below HC.out 0 _ rfl
        have f1 : wn2.cell? ⟨w1.heap.size, 1, none⟩ = some (.slice A1 n1 c1) := BA.out.below HC.out 1 _ rfl
        have f2 : wn2.cell? ⟨w1.heap.size + 1, 0, none⟩ = some (.int .i64 m.base) := BB.out.below HC.out 0 _ rfl
        have f3 : wn2.cell? ⟨w1.heap.size + 1, 1, none⟩ = some (.slice A2 n2 c2) := BB.out.below HC.out 1 _ rfl
        go_wp2
        go_ret
        exact ⟨rfl, below_more BEL.out HC.out⟩
      · have f0 := BA.out.below HC.out 0 _ rfl
        have f1 := BA.out.below HC.out 1 _ rfl
        have f2 := BB.out.below HC.out 0 _ rfl
        have f3 := BB.out.below HC.out 1 _ rfl
        go_wp2_with fail
        refine (at_of k1 _ _ _ (by first | exact RA.out.below HC.out | exact (RA.out.below HC.out).drew) (by first | exact RB.out.below HC.out | exact (RB.out.below HC.out).drew)).mono ?_
        rintro e wn0 ⟨rfl, hb⟩
        have HC' : Hid (Below wg.heap.size wg wn0) := Lib.hid (below_more HC.out hb)
        clear HC
        have HC := HC'
        clear HC' f0 f1 f2 f3 hb
        have f0 : wn0.cell? ⟨w1.heap.size, 0, none⟩ = some (.int .i64 l.base) := BA.out.below HC.out 0 _ rfl
        have f1 : wn0.cell? ⟨w1.heap.size, 1, none⟩ = some (.slice A1 n1 c1) := BA.out.below HC.out 1 _ rfl
        have f2 : wn0.cell? ⟨w1.heap.size + 1, 0, none⟩ = some (.int .i64 m.base) := BB.out.below HC.out 0 _ rfl
        have f3 : wn0.cell? ⟨w1.heap.size + 1, 1, none⟩ = some (.slice A2 n2 c2) := BB.out.below HC.out 1 _ rfl
        go_wp2_with fail
        refine (at_of k2 _ _ _ (by first | exact RB.out.below HC.out | exact (RB.out.below HC.out).drew) (by first | exact RA.out.below HC.out | exact (RA.out.below HC.out).drew)).mono ?_
        rintro e wn1 ⟨rfl, hb⟩
        have HC' : Hid (Below wg.heap.size wg wn1) := Lib.hid (below_more HC.out hb)
        clear HC
        have HC := HC'
        clear HC' f0 f1 f2 f3 hb
        have f0 : wn1.cell? ⟨w1.heap.size, 0, none⟩ = some (.int .i64 l.base) := BA.out.below HC.out 0 _ rfl
        have f1 : wn1.cell? ⟨w1.heap.size, 1, none⟩ = some (.slice A1 n1 c1) := BA.out.below HC.out 1 _ rfl
        have f2 : wn1.cell? ⟨w1.heap.size + 1, 0, none⟩ = some (.int .i64 m.base) := BB.out.below HC.out 0 _ rfl
        have f3 : wn1.cell? ⟨w1.heap.size + 1, 1, none⟩ = some (.slice A2 n2 c2) := BB.out.below HC.out 1 _ rfl
        go_wp2
        go_ret
        exact ⟨rfl, below_more BEL.out HC.out⟩
    · have f0 := BA.out.below HC.out 0 _ rfl
      have f1 := BA.out.below HC.out 1 _ rfl
      have f2 := BB.out.below HC.out 0 _ rfl
      have f3 := BB.out.below HC.out 1 _ rfl
      go_wp2_with fail
      refine (at_of k1 _ _ _ (by first | exact RA.out.below HC.out | exact (RA.out.below HC.out).drew) (by first | exact RB.out.below HC.out | exact (RB.out.below HC.out).drew)).mono ?_
      rintro e wn0 ⟨rfl, hb⟩
      have HC' : Hid (Below wg.heap.size wg wn0) := Lib.hid (below_more HC.out hb)
      clear HC
      have HC := HC'
      clear HC' f0 f1 f2 f3 hb
      have f0 : wn0.cell? ⟨w1.heap.size, 0, none⟩ = some (.int .i64 l.base) := BA.out.below HC.out 0 _ rfl
      have f1 : wn0.cell? ⟨w1.heap.size, 1, none⟩ = some (.slice A1 n1 c1) := BA.out.below HC.out 1 _ rfl
      have f2 : wn0.cell? ⟨w1.heap.size + 1, 0, none⟩ = some (.int .i64 m.base) := BB.out.below HC.out 0 _ rfl
      have f3 : wn0.cell? ⟨w1.heap.size + 1, 1, none⟩ = some (.slice A2 n2 c2) := BB.out.below HC.out 1 _ rfl
      go_wp2
      go_ret
      exact ⟨rfl, below_more BEL.out HC.out⟩
  · go_enter Try.func3, Try.ntmps3
    go_wp2_with fail
    refine (big_yes a len cap _ (by omega)).mono ?_
    rintro e w1 ⟨rfl, rfl⟩
    go_wp2
    go_ret
    exact ⟨rfl, .refl _ _⟩

set_option maxRecDepth 100000 in
theorem lifted (os : Os) (started : os.Started) (H : Type) (enc : TypeId × Value → H) :
    ReturnsInHanded {} Try.checked os 3 .any (Rows.fnOrderSpec.pre6 enc Try.prog Try.f3 Rows.fnOrderRow.domain false) (Rows.fnOrderSpec.post enc Try.prog Try.f3 false true false false) := by
  refine returnsInHanded_of_change (C := Try.checked) own started (by kernel_rfl) Try.func3
    (ChangeSpec.witness6 (enc := enc) (C := Try.checked) false ⟨#[], #[.slice none 0 0], []⟩ 8 (by kernel_rfl) (by kernel_rfl) (by kernel_rfl) (by kernel_rfl)) ?_
  intro W base args ds gs before hval0 hW hcnd _
  have hval : ∀ (j : Nat) t v, Try.f3.params[j]? = some t → args[j]? = some v → Value.okWide Try.prog W .any base t v := hval0
  have hW' := hW
  obtain ⟨p, q, hA0, hV, rfl, hfz, hnd⟩ := hW
  have hA : DataW.TrodAll enc Try.prog W 0 (fun _ => true) true Try.f3.params.toList args.toList ds p := hA0
  rw [Try.params3] at hA hval
  obtain ⟨v0, vs0, d0, ds0, p0, q0, hargs, rfl, rfl, h0, r0⟩ := trodAll_cons hA
  obtain ⟨rfl, rfl, rfl⟩ := trodAll_nil r0
  obtain rfl : args = #[v0] := by cases args; simp_all
  obtain ⟨rfl, rfl⟩ := trodVars_none hV
  have k0 := h0
  have lt0 : ∀ x ∈ p0, x.block < W.heap.size := by obtain ⟨m, hm⟩ := k0; exact DataW.trod_lt m _ _ _ hm
  obtain ⟨a0, len0, cap0, rfl, z0, w0⟩ := open_bytes (hval 0 22 v0 rfl rfl) h0
  clear hA0 hval0
  refine (walk a0 len0 cap0 z0 w0 (w := W)).mono fun e W' ⟨he, bel⟩ => ?_
  subst he
  exact ⟨_, rfl, _, _, _, [], _, [], hW', (trodAll_cons_mk (shut_bool Try.underlying4 _) trodAll_mk0), (trodAll_cons_mk (Below.trod laidOut (by kernel_rfl) (of_decide_eq_true (by kernel_rfl)) k0 bel lt0) trodAll_mk0), rfl, bel.frame _, fun h => by cases h⟩

theorem said : Rows.FnOrderSaid :=
  OpenClaim.holds_of_wide 3 Try.f3 rfl rfl rfl rfl rfl rfl rfl ⟨rfl, rfl, rfl, rfl, rfl⟩ rfl rfl rfl rfl rfl (by kernel_rfl) Try.func3 (by kernel_rfl)
    (of_decide_eq_true (by kernel_rfl)) (by unfold Func.isWrapper; first | (rw [if_pos (by decide +kernel)]; kernel_rfl) | (rw [if_neg (by decide +kernel)]; exact ⟨rfl, rfl⟩))
    (fun os started H enc _ => lifted os started H enc)

theorem proved : Rows.FnOrderSaid := said
#print axioms proved
end Go.Proofs.Ytoaglephpkmaeaa.fnOrder
