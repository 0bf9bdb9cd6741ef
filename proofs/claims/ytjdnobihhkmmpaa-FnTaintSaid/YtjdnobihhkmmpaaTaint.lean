/-
  FnTaint: whatever the input, the law returns true and its arguments read as they did; no condition.
-/
import Derived.Test.YtjdnobihhkmmpaaBase
import Derived.Test.YtjdnobihhkmmpaaRows
import Derived.Test.YtjdnobihhkmmpaaHas
import Derived.Test.YtjdnobihhkmmpaaLike
import Derived.Test.YtjdnobihhkmmpaaDrawTwo
import Derived.Test.YtjdnobihhkmmpaaImplTaint
import Derived.Test.YtjdnobihhkmmpaaImplLab1
import Derived.Test.YtjdnobihhkmmpaaSpecTaint
import Derived.Test.YtjdnobihhkmmpaaSpecStars
import Derived.Test.YtjdnobihhkmmpaaPure
import Derived.Deep.QuietTactic
import Derived.Deep.RegionHeld
namespace Go.Proofs.Ytjdnobihhkmmpaa.fnTaint
set_option maxRecDepth 100000
open Go.ChangeShapes Go.WideShapes Go.ChangeAt Go.RowKit
open Go.ChangeMaps (open_string shut_string)
set_option linter.unusedVariables false

theorem slev_of {l : Lab} {y p : Int} (h : levelOf l y = p) (v : Value) (w : World) (hr : RdLab w v l) : Calls Try.prog 15 #[v, .int .i64 y] w (RetV (.int .i64 p) w) := by
  have := spec_levelof v l y w hr
  rwa [h] at this
theorem ilev_of {l : Lab} {y p : Int} (h : levelOf l y = p) (v : Value) (w : World) (hr : RdLab w v l) : Calls Try.prog 16 #[v, .int .i64 y] w (RetV (.int .i64 p) w) := by
  have := impl_levelof v l y w hr
  rwa [h] at this
theorem handlesOf_le2 (l m : Lab) : (handlesOf l m).length ≤ 1000 := by
  unfold handlesOf
  split
  · rename_i h
    simp only [Bool.and_eq_true] at h
    have h1 := labOk_short h.1
    have h2 := labOk_short h.2
    have h3 := handlesIn_length [] l.parts
    have h4 := handlesIn_length (handlesIn [] l.parts) m.parts
    simp at h3
    omega
  · simp

set_option maxHeartbeats 8000000 in
theorem walk {w : World} (a : Option Addr) (len cap : Nat) (zs : List Int) (w0 : IsRow .u8 w a len cap zs) :
    Calls Try.prog 3 #[.slice a len cap] w fun e w' => e = .returned (.bool true) ∧ Below w.heap.size w w' := by
  by_cases hl : len ≤ 4096
  · go_enter Try.func3, Try.ntmps3
    have bel := Below.refl w.heap.size w
    go_wp2_with fail
    refine (big_no a len cap _ (by omega)).mono ?_
    rintro e w1 ⟨rfl, rfl⟩
    go_wp2_with fail
    refine (draw_tainted a len cap zs _ hl (by first | exact w0.below bel | exact w0.below (bel.alloc bel.size _) | exact w0.below ((bel.alloc bel.size _).alloc (by have := bel.size; simp; omega) _))).mono ?_
    rintro e w1 ⟨v1, v2, v3, l, m, o, rfl, ra, rb, rc, hb⟩
    have hB : Below w.heap.size w w1 := by first | exact hb | exact hb | exact below_undrew hb
    have bel' : Below w.heap.size w w1 := below_more bel hB
    clear bel
    have bel := bel'
    clear bel'
    have RA := Lib.hid (ra)
    have RB := Lib.hid (rb)
    have RC := Lib.hid (rc)
    obtain ⟨A1, n1, c1, rfl, -⟩ := ra
    obtain ⟨A2, n2, c2, rfl, -⟩ := rb
    obtain ⟨A3, n3, c3, rfl, -⟩ := rc
    clear hb hB
    obtain ⟨x, is, hR⟩ : ∃ x is, taintL l m o = (x, is) := ⟨_, _, rfl⟩
    have HI : Hid (∀ w1 v1 u1 x1, RdLab w1 v1 l → RdLab w1 u1 m → RdLab w1 x1 o → Calls Try.prog 8 #[v1, u1, x1] w1 (RetLab2 x is w1)) := Lib.hid (fun w1 v1 u1 x1 hr hq hu => by have := impl_tainted v1 u1 x1 l m o w1 hr hq hu; rw [hR] at this; exact this)
    have HS : Hid (∀ w1 v1 u1 x1, RdLab w1 v1 l → RdLab w1 u1 m → RdLab w1 x1 o → Calls Try.prog 9 #[v1, u1, x1] w1 (RetLab2 x is w1)) := Lib.hid (fun w1 v1 u1 x1 hr hq hu => by have := spec_tainted v1 u1 x1 l m o w1 hr hq hu; rw [hR] at this; exact this)
    have HT := Lib.hid hR
    clear hR
    go_wp2_with fail
    refine (HI.out _ _ _ _ (by first | exact RA.out | exact RA.out.alloc _ | exact (RA.out.alloc _).alloc _ | exact ((RA.out.alloc _).alloc _).alloc _) (by first | exact RB.out | exact RB.out.alloc _ | exact (RB.out.alloc _).alloc _ | exact ((RB.out.alloc _).alloc _).alloc _) (by first | exact RC.out | exact RC.out.alloc _ | exact (RC.out.alloc _).alloc _ | exact ((RC.out.alloc _).alloc _).alloc _)).mono ?_
    rintro e w2 ⟨v4, rfl, own, hb⟩
    have hB : Below w1.heap.size w1 w2 := by first | exact over_alloc (over_alloc (over_alloc hb)) | exact hb | exact below_undrew hb
    have BA : Hid (Has w2 (w1.heap.size) [.int .i64 l.base, .slice A1 n1 c1]) := Lib.hid (by exact (by have h9 := Has.new (over_alloc (over_alloc hb)); exact h9))
    have BB : Hid (Has w2 (w1.heap.size + 1) [.int .i64 m.base, .slice A2 n2 c2]) := Lib.hid (by exact (by have h9 := Has.new (over_alloc hb); rw [World.size_alloc] at h9; exact h9))
    have BC : Hid (Has w2 (w1.heap.size + 1 + 1) [.int .i64 o.base, .slice A3 n3 c3]) := Lib.hid (by exact (by have h9 := Has.new hb; rw [World.size_alloc, World.size_alloc] at h9; exact h9))
    have RA' := Lib.hid (RA.out.below hB)
    clear RA
    have RA := RA'
    clear RA'
    have RB' := Lib.hid (RB.out.below hB)
    clear RB
    have RB := RB'
    clear RB'
    have RC' := Lib.hid (RC.out.below hB)
    clear RC
    have RC := RC'
    clear RC'
    have bel' : Below w.heap.size w w2 := below_more bel hB
    clear bel
    have bel := bel'
    clear bel'
    have RX := Lib.hid (own.rd)
    obtain ⟨A4, n4, c4, rfl, -⟩ := own
    clear hb hB
    have BAc0 := BA.out 0 _ rfl
    have BAc1 := BA.out 1 _ rfl
    have BAz := block_lt_of_cell BAc0
    have BBc0 := BB.out 0 _ rfl
    have BBc1 := BB.out 1 _ rfl
    have BBz := block_lt_of_cell BBc0
    have BCc0 := BC.out 0 _ rfl
    have BCc1 := BC.out 1 _ rfl
    have BCz := block_lt_of_cell BCc0
    go_wp2_with fail
    refine (HS.out _ _ _ _ (by first | exact RA.out | exact RA.out.alloc _ | exact (RA.out.alloc _).alloc _ | exact ((RA.out.alloc _).alloc _).alloc _) (by first | exact RB.out | exact RB.out.alloc _ | exact (RB.out.alloc _).alloc _ | exact ((RB.out.alloc _).alloc _).alloc _) (by first | exact RC.out | exact RC.out.alloc _ | exact (RC.out.alloc _).alloc _ | exact ((RC.out.alloc _).alloc _).alloc _)).mono ?_
    rintro e w3 ⟨v5, rfl, own, hb⟩
    clear BAc0 BAc1 BBc0 BBc1 BCc0 BCc1 BAz BBz BCz
    have hB : Below w2.heap.size w2 w3 := by first | exact over_alloc hb | exact hb | exact below_undrew hb
    have BX : Hid (Has w3 (w2.heap.size) [.int .i64 x.base, .slice A4 n4 c4]) := Lib.hid (by exact Has.new hb)
    have BA' := Lib.hid (BA.out.below hB)
    clear BA
    have BA := BA'
    clear BA'
    have BB' := Lib.hid (BB.out.below hB)
    clear BB
    have BB := BB'
    clear BB'
    have BC' := Lib.hid (BC.out.below hB)
    clear BC
    have BC := BC'
    clear BC'
    have RA' := Lib.hid (RA.out.below hB)
    clear RA
    have RA := RA'
    clear RA'
    have RB' := Lib.hid (RB.out.below hB)
    clear RB
    have RB := RB'
    clear RB'
    have RC' := Lib.hid (RC.out.below hB)
    clear RC
    have RC := RC'
    clear RC'
    have RX' := Lib.hid (RX.out.below hB)
    clear RX
    have RX := RX'
    clear RX'
    have bel' : Below w.heap.size w w3 := below_more bel hB
    clear bel
    have bel := bel'
    clear bel'
    have RY := Lib.hid (own.rd)
    obtain ⟨A5, n5, c5, rfl, -⟩ := own
    clear hb hB
    clear HI HS
    go_wp2_with fail
    refine (draw_stars a len cap zs _ hl (by first | exact w0.below bel | exact w0.below (bel.alloc bel.size _) | exact w0.below ((bel.alloc bel.size _).alloc (by have := bel.size; simp; omega) _))).mono ?_
    rintro e w4 ⟨v6, k, rfl, rd, -, hb⟩
    have hB : Below w3.heap.size w3 w4 := by first | exact over_alloc hb | exact hb | exact below_undrew hb
    have BY : Hid (Has w4 (w3.heap.size) [.int .i64 x.base, .slice A5 n5 c5]) := Lib.hid (by exact Has.new hb)
    have BA' := Lib.hid (BA.out.below hB)
    clear BA
    have BA := BA'
    clear BA'
    have BB' := Lib.hid (BB.out.below hB)
    clear BB
    have BB := BB'
    clear BB'
    have BC' := Lib.hid (BC.out.below hB)
    clear BC
    have BC := BC'
    clear BC'
    have BX' := Lib.hid (BX.out.below hB)
    clear BX
    have BX := BX'
    clear BX'
    have RA' := Lib.hid (RA.out.below hB)
    clear RA
    have RA := RA'
    clear RA'
    have RB' := Lib.hid (RB.out.below hB)
    clear RB
    have RB := RB'
    clear RB'
    have RC' := Lib.hid (RC.out.below hB)
    clear RC
    have RC := RC'
    clear RC'
    have RX' := Lib.hid (RX.out.below hB)
    clear RX
    have RX := RX'
    clear RX'
    have RY' := Lib.hid (RY.out.below hB)
    clear RY
    have RY := RY'
    clear RY'
    have bel' : Below w.heap.size w w4 := below_more bel hB
    clear bel
    have bel := bel'
    clear bel'
    have RS := Lib.hid (rd)
    obtain ⟨A6, n6, c6, rfl, -⟩ := rd
    clear hb hB
    obtain ⟨u, good, hR⟩ : ∃ x is, starsL k = (x, is) := ⟨_, _, rfl⟩
    have HI : Hid (∀ w1 v1, RdLab w1 v1 k → Calls Try.prog 11 #[v1] w1 (RetLab2 u good w1)) := Lib.hid (fun w1 v1 hr => by have := impl_stars v1 k w1 hr; rw [hR] at this; exact this)
    have HS : Hid (∀ w1 v1, RdLab w1 v1 k → Calls Try.prog 12 #[v1] w1 (RetLab2 u good w1)) := Lib.hid (fun w1 v1 hr => by have := spec_stars v1 k w1 hr; rw [hR] at this; exact this)
    clear hR
    go_wp2_with fail
    refine (HI.out _ _ (by first | exact RS.out | exact RS.out.alloc _ | exact (RS.out.alloc _).alloc _ | exact ((RS.out.alloc _).alloc _).alloc _)).mono ?_
    rintro e w5 ⟨v7, rfl, own, hb⟩
    have hB : Below w4.heap.size w4 w5 := by first | exact over_alloc hb | exact hb | exact below_undrew hb
    have BS : Hid (Has w5 (w4.heap.size) [.int .i64 k.base, .slice A6 n6 c6]) := Lib.hid (by exact Has.new hb)
    have BA' := Lib.hid (BA.out.below hB)
    clear BA
    have BA := BA'
    clear BA'
    have BB' := Lib.hid (BB.out.below hB)
    clear BB
    have BB := BB'
    clear BB'
    have BC' := Lib.hid (BC.out.below hB)
    clear BC
    have BC := BC'
    clear BC'
    have BX' := Lib.hid (BX.out.below hB)
    clear BX
    have BX := BX'
    clear BX'
    have BY' := Lib.hid (BY.out.below hB)
    clear BY
    have BY := BY'
    clear BY'
    have RA' := Lib.hid (RA.out.below hB)
    clear RA
    have RA := RA'
    clear RA'
    have RB' := Lib.hid (RB.out.below hB)
    clear RB
    have RB := RB'
    clear RB'
    have RC' := Lib.hid (RC.out.below hB)
    clear RC
    have RC := RC'
    clear RC'
    have RX' := Lib.hid (RX.out.below hB)
    clear RX
    have RX := RX'
    clear RX'
    have RY' := Lib.hid (RY.out.below hB)
    clear RY
    have RY := RY'
    clear RY'
    have RS' := Lib.hid (RS.out.below hB)
    clear RS
    have RS := RS'
    clear RS'
    have bel' : Below w.heap.size w w5 := below_more bel hB
    clear bel
    have bel := bel'
    clear bel'
    have RU := Lib.hid (own.rd)
    obtain ⟨A7, n7, c7, rfl, -⟩ := own
    clear hb hB
    have BSc0 := BS.out 0 _ rfl
    have BSc1 := BS.out 1 _ rfl
    have BSz := block_lt_of_cell BSc0
    go_wp2_with fail
    refine (HS.out _ _ (by first | exact RS.out | exact RS.out.alloc _ | exact (RS.out.alloc _).alloc _ | exact ((RS.out.alloc _).alloc _).alloc _)).mono ?_
    rintro e w6 ⟨v8, rfl, own, hb⟩
    clear BSc0 BSc1 BSz
    have hB : Below w5.heap.size w5 w6 := by first | exact over_alloc hb | exact hb | exact below_undrew hb
    have BU : Hid (Has w6 (w5.heap.size) [.int .i64 u.base, .slice A7 n7 c7]) := Lib.hid (by exact Has.new hb)
    have BA' := Lib.hid (BA.out.below hB)
    clear BA
    have BA := BA'
    clear BA'
    have BB' := Lib.hid (BB.out.below hB)
    clear BB
    have BB := BB'
    clear BB'
    have BC' := Lib.hid (BC.out.below hB)
    clear BC
    have BC := BC'
    clear BC'
    have BX' := Lib.hid (BX.out.below hB)
    clear BX
    have BX := BX'
    clear BX'
    have BY' := Lib.hid (BY.out.below hB)
    clear BY
    have BY := BY'
    clear BY'
    have BS' := Lib.hid (BS.out.below hB)
    clear BS
    have BS := BS'
    clear BS'
    have RA' := Lib.hid (RA.out.below hB)
    clear RA
    have RA := RA'
    clear RA'
    have RB' := Lib.hid (RB.out.below hB)
    clear RB
    have RB := RB'
    clear RB'
    have RC' := Lib.hid (RC.out.below hB)
    clear RC
    have RC := RC'
    clear RC'
    have RX' := Lib.hid (RX.out.below hB)
    clear RX
    have RX := RX'
    clear RX'
    have RY' := Lib.hid (RY.out.below hB)
    clear RY
    have RY := RY'
    clear RY'
    have RS' := Lib.hid (RS.out.below hB)
    clear RS
    have RS := RS'
    clear RS'
    have RU' := Lib.hid (RU.out.below hB)
    clear RU
    have RU := RU'
    clear RU'
    have bel' : Below w.heap.size w w6 := below_more bel hB
    clear bel
    have bel := bel'
    clear bel'
    have RV := Lib.hid (own.rd)
    obtain ⟨A8, n8, c8, rfl, -⟩ := own
    clear hb hB
    clear HI HS
    go_upto_region 9 with fail
    generalize hW : w6.alloc (.cells #[.int .i64 u.base, .slice A8 n8 c8] 26) = wg
    have hB : Below w6.heap.size w6 wg := by rw [← hW]; exact (Below.refl _ _).alloc (Nat.le_refl _) _
    have BV : Hid (Has wg w6.heap.size [.int .i64 u.base, .slice A8 n8 c8]) := Lib.hid (Has.new (by rw [hW]; exact .refl _ _))
    clear hW
    clear BB
    clear BS
    clear RB
    clear RS
    have BA' := Lib.hid (BA.out.below hB)
    clear BA
    have BA := BA'
    clear BA'
    have BC' := Lib.hid (BC.out.below hB)
    clear BC
    have BC := BC'
    clear BC'
    have BX' := Lib.hid (BX.out.below hB)
    clear BX
    have BX := BX'
    clear BX'
    have BY' := Lib.hid (BY.out.below hB)
    clear BY
    have BY := BY'
    clear BY'
    have BU' := Lib.hid (BU.out.below hB)
    clear BU
    have BU := BU'
    clear BU'
    have RA' := Lib.hid (RA.out.below hB)
    clear RA
    have RA := RA'
    clear RA'
    have RC' := Lib.hid (RC.out.below hB)
    clear RC
    have RC := RC'
    clear RC'
    have RX' := Lib.hid (RX.out.below hB)
    clear RX
    have RX := RX'
    clear RX'
    have RY' := Lib.hid (RY.out.below hB)
    clear RY
    have RY := RY'
    clear RY'
    have RU' := Lib.hid (RU.out.below hB)
    clear RU
    have RU := RU'
    clear RU'
    have RV' := Lib.hid (RV.out.below hB)
    clear RV
    have RV := RV'
    clear RV'
    have BEL := Lib.hid (below_more bel hB)
    clear bel hB
    have HC := Lib.hid (Below.refl wg.heap.size wg)
    have di : (is != is) = false := by simp
    have dt : (good != good) = false := by simp
    go_cut [74] (fun s wx => s = .bool false ∧ Hid (Below wg.heap.size wg wx))
    case first =>
      have f0 := BX.out.below HC.out 0 _ rfl
      have f1 := BX.out.below HC.out 1 _ rfl
      have f2 := BY.out.below HC.out 0 _ rfl
      have f3 := BY.out.below HC.out 1 _ rfl
      have f4 := BU.out.below HC.out 0 _ rfl
      have f5 := BU.out.below HC.out 1 _ rfl
      have f6 := BV.out.below HC.out 0 _ rfl
      have f7 := BV.out.below HC.out 1 _ rfl
      go_wp2_with fail
      refine (like_lab _ _ x _ (by first | exact RX.out.below HC.out | exact (RX.out.below HC.out).drew) (by first | exact RY.out.below HC.out | exact (RY.out.below HC.out).drew)).mono ?_
      rintro e wn0 ⟨rfl, hb⟩
      have HC' : Hid (Below wg.heap.size wg wn0) := Lib.hid (below_more HC.out hb)
      clear HC
      have HC := HC'
      clear HC'
      clear f0 f1 f2 f3 f4 f5 f6 f7 hb
      have f0 : wn0.cell? ⟨w2.heap.size, 0, none⟩ = some (.int .i64 x.base) := BX.out.below HC.out 0 _ rfl
      have f1 : wn0.cell? ⟨w2.heap.size, 1, none⟩ = some (.slice A4 n4 c4) := BX.out.below HC.out 1 _ rfl
      have f2 : wn0.cell? ⟨w3.heap.size, 0, none⟩ = some (.int .i64 x.base) := BY.out.below HC.out 0 _ rfl
      have f3 : wn0.cell? ⟨w3.heap.size, 1, none⟩ = some (.slice A5 n5 c5) := BY.out.below HC.out 1 _ rfl
      have f4 : wn0.cell? ⟨w5.heap.size, 0, none⟩ = some (.int .i64 u.base) := BU.out.below HC.out 0 _ rfl
      have f5 : wn0.cell? ⟨w5.heap.size, 1, none⟩ = some (.slice A7 n7 c7) := BU.out.below HC.out 1 _ rfl
      have f6 : wn0.cell? ⟨w6.heap.size, 0, none⟩ = some (.int .i64 u.base) := BV.out.below HC.out 0 _ rfl
      have f7 : wn0.cell? ⟨w6.heap.size, 1, none⟩ = some (.slice A8 n8 c8) := BV.out.below HC.out 1 _ rfl
      go_wp2_with fail
      refine (like_lab _ _ u _ (by first | exact RU.out.below HC.out | exact (RU.out.below HC.out).drew) (by first | exact RV.out.below HC.out | exact (RV.out.below HC.out).drew)).mono ?_
      rintro e wn1 ⟨rfl, hb⟩
      have HC' : Hid (Below wg.heap.size wg wn1) := Lib.hid (below_more HC.out hb)
      clear HC
      have HC := HC'
      clear HC'
      clear f0 f1 f2 f3 f4 f5 f6 f7 hb
      have f0 : wn1.cell? ⟨w2.heap.size, 0, none⟩ = some (.int .i64 x.base) := BX.out.below HC.out 0 _ rfl
      have f1 : wn1.cell? ⟨w2.heap.size, 1, none⟩ = some (.slice A4 n4 c4) := BX.out.below HC.out 1 _ rfl
      have f2 : wn1.cell? ⟨w3.heap.size, 0, none⟩ = some (.int .i64 x.base) := BY.out.below HC.out 0 _ rfl
      have f3 : wn1.cell? ⟨w3.heap.size, 1, none⟩ = some (.slice A5 n5 c5) := BY.out.below HC.out 1 _ rfl
      have f4 : wn1.cell? ⟨w5.heap.size, 0, none⟩ = some (.int .i64 u.base) := BU.out.below HC.out 0 _ rfl
      have f5 : wn1.cell? ⟨w5.heap.size, 1, none⟩ = some (.slice A7 n7 c7) := BU.out.below HC.out 1 _ rfl
      have f6 : wn1.cell? ⟨w6.heap.size, 0, none⟩ = some (.int .i64 u.base) := BV.out.below HC.out 0 _ rfl
      have f7 : wn1.cell? ⟨w6.heap.size, 1, none⟩ = some (.slice A8 n8 c8) := BV.out.below HC.out 1 _ rfl
      go_wp2
      go_meet
      case rel => exact ⟨rfl, HC⟩
    obtain ⟨rfl, HC'⟩ := hcut
    clear HC
    have HC := HC'
    clear HC' di dt BY BU BV RY RU RV
    cases is
    · go_wp2
      go_ret
      exact ⟨rfl, below_more BEL.out HC.out⟩
    have f0 := BA.out.below HC.out 0 _ rfl
    have f1 := BA.out.below HC.out 1 _ rfl
    have f2 := BX.out.below HC.out 0 _ rfl
    have f3 := BX.out.below HC.out 1 _ rfl
    go_wp2_with fail
    refine (spec_handlesof _ _ l x _ (by first | exact RA.out.below HC.out | exact (RA.out.below HC.out).drew) (by first | exact RX.out.below HC.out | exact (RX.out.below HC.out).drew)).mono ?_
    rintro e w9 ⟨v9, rfl, own9, hb9⟩
    obtain ⟨A9, c9, rfl, -, -, ha9⟩ := own_at own9
    have hlx := handlesOf_le2 l x
    obtain ⟨N, hN⟩ : ∃ N, N = (handlesOf l x).length := ⟨_, rfl⟩
    have HN : Hid ((handlesOf l x).length = N) := Lib.hid hN.symm
    have hN1 : N ≤ 1000 := by omega
    rw [← hN] at own9 ⊢
    have HC' : Hid (Below wg.heap.size wg w9) := Lib.hid (below_more HC.out hb9)
    clear HC
    have HC := HC'
    clear HC'
    have HA9 := Lib.hid ha9
    have BA9 := Lib.hid (BA.out.below HC.out)
    have BX9 := Lib.hid (BX.out.below HC.out)
    have BC9 := Lib.hid (BC.out.below HC.out)
    have RA9 := Lib.hid (RA.out.below HC.out)
    have RX9 := Lib.hid (RX.out.below HC.out)
    have RC9 := Lib.hid (RC.out.below HC.out)
    have bel9 := Lib.hid (below_more BEL.out HC.out)
    clear hb9 own9 ha9 hN hlx HC f0 f1 f2 f3 BA BX BC RA RX RC BEL
    go_wp2
    go_loopw [16] (fun i wr => ∃ k : Nat, k ≤ N ∧ i = .int .i64 k ∧ Hid (Below w9.heap.size w9 wr)) (fun i _ => N - (intOf i).toNat)
    case atStart => exact ⟨0, by omega, rfl, Lib.hid (.refl _ _)⟩
    case round =>
      obtain ⟨j, hj, rfl, HR⟩ := hrel
      by_cases hlt : j < N
      · obtain ⟨b9, o9, y, rfl, hy, cy⟩ := nmat (HA9.out.below HR.out) (k := j) (by have := HN.out; omega)
        have tl := taint_level HT.out y (List.mem_of_getElem? hy)
        obtain ⟨p, hp⟩ : ∃ p, levelOf l y = p := ⟨_, rfl⟩
        obtain ⟨s, hs⟩ : ∃ s, levelOf x y = s := ⟨_, rfl⟩
        obtain ⟨t, ht⟩ : ∃ t, levelOf o y = t := ⟨_, rfl⟩
        rw [hp, hs, ht] at tl
        have KP := Lib.hid hp
        have KS := Lib.hid hs
        have KT := Lib.hid ht
        have CY := Lib.hid cy
        have TL := Lib.hid tl
        have HC := Lib.hid (Below.refl wr.heap.size wr)
        clear hp hs ht hy tl
        have e0 := BA9.out.below HR.out 0 _ rfl
        have e1 := BA9.out.below HR.out 1 _ rfl
        go_wp2
        go_region_held3 (fun w' => w'.cell? ⟨w1.heap.size, 0, none⟩ = some (.int .i64 l.base) ∧ w'.cell? ⟨w1.heap.size, 1, none⟩ = some (.slice A1 n1 c1) ∧ w'.cell? ⟨b9, o9 + j, none⟩ = some (.int .i64 y))
          (first | exact ⟨e0, e1, cy⟩ | go_keep)
          (first
          | (go_at_call 15
             refine (slev_of KP.out _ _ (by first | exact RA9.out.below (below_more HR.out HC.out) | exact (RA9.out.below (below_more HR.out HC.out)).drew)).mono ?_
             rintro e wn ⟨rfl, hb⟩
             have HC' : Hid (Below wr.heap.size wr wn) := Lib.hid (by first | exact below_more HC.out hb | exact below_more HC.out (below_undrew hb))
             clear HC e0 e1 cy
             have HC := HC'
             clear HC' hb
             have e0 : wn.cell? ⟨w1.heap.size, 0, none⟩ = some (.int .i64 l.base) := BA9.out.below (below_more HR.out HC.out) 0 _ rfl
             have e1 : wn.cell? ⟨w1.heap.size, 1, none⟩ = some (.slice A1 n1 c1) := BA9.out.below (below_more HR.out HC.out) 1 _ rfl
             have cy : wn.cell? ⟨b9, o9 + j, none⟩ = some (.int .i64 y) := (HC.out.cell (block_lt_of_cell CY.out)).trans CY.out))
        clear e0 e1 cy
        obtain ⟨w10, hw10⟩ : ∃ w10, w10 = wn := ⟨_, rfl⟩
        rw [← hw10] at HC ⊢
        clear hw10
        have HR2 := Lib.hid (below_more HR.out HC.out)
        have CY2 := Lib.hid ((HC.out.cell (block_lt_of_cell CY.out)).trans CY.out)
        have cy := CY2.out
        clear HC
        have HC := Lib.hid (Below.refl w10.heap.size w10)
        have e0 := BX9.out.below HR2.out 0 _ rfl
        have e1 := BX9.out.below HR2.out 1 _ rfl
        go_wp2
        go_region_held3 (fun w' => w'.cell? ⟨w2.heap.size, 0, none⟩ = some (.int .i64 x.base) ∧ w'.cell? ⟨w2.heap.size, 1, none⟩ = some (.slice A4 n4 c4) ∧ w'.cell? ⟨b9, o9 + j, none⟩ = some (.int .i64 y))
          (first | exact ⟨e0, e1, cy⟩ | go_keep)
          (first
          | (go_at_call 16
             refine (ilev_of KS.out _ _ (by first | exact RX9.out.below (below_more HR2.out HC.out) | exact (RX9.out.below (below_more HR2.out HC.out)).drew)).mono ?_
             rintro e wn ⟨rfl, hb⟩
             have HC' : Hid (Below w10.heap.size w10 wn) := Lib.hid (by first | exact below_more HC.out hb | exact below_more HC.out (below_undrew hb))
             clear HC e0 e1 cy
             have HC := HC'
             clear HC' hb
             have e0 : wn.cell? ⟨w2.heap.size, 0, none⟩ = some (.int .i64 x.base) := BX9.out.below (below_more HR2.out HC.out) 0 _ rfl
             have e1 : wn.cell? ⟨w2.heap.size, 1, none⟩ = some (.slice A4 n4 c4) := BX9.out.below (below_more HR2.out HC.out) 1 _ rfl
             have cy : wn.cell? ⟨b9, o9 + j, none⟩ = some (.int .i64 y) := (HC.out.cell (block_lt_of_cell CY2.out)).trans CY2.out))
        clear e0 e1 cy
        obtain ⟨w11, hw11⟩ : ∃ w11, w11 = wn := ⟨_, rfl⟩
        rw [← hw11] at HC ⊢
        clear hw11
        have HR3 := Lib.hid (below_more HR2.out HC.out)
        have CY3 := Lib.hid ((HC.out.cell (block_lt_of_cell CY2.out)).trans CY2.out)
        have cy := CY3.out
        clear HC
        have HC := Lib.hid (Below.refl w11.heap.size w11)
        rcases TL.out with ⟨h1, h2⟩ | ⟨h1, h2⟩
        · subst h1
          subst h2
          have e0 := BC9.out.below HR3.out 0 _ rfl
          go_wp2
          go_quiet (fail)
          go_wp2
          go_roundw
          case rel => exact ⟨j + 1, by omega, by go_num, Lib.hid (by first | exact HR3.out | exact below_drewN HR3.out _ | exact below_more HR3.out HC.out)⟩
          case measure => simp [intOf]; omega
        · have d1 : (p == 0) = false := by simpa using h1
          have d2 : (p != 0) = true := by simpa using h1
          have d3 : ¬ s < t := by omega
          clear h1 h2
          have e0 := BC9.out.below HR3.out 0 _ rfl
          have e1 := BC9.out.below HR3.out 1 _ rfl
          go_wp2
          first
          | go_region_held (fun w' => w'.cell? ⟨w1.heap.size + 1 + 1, 0, none⟩ = some (.int .i64 o.base) ∧ w'.cell? ⟨w1.heap.size + 1 + 1, 1, none⟩ = some (.slice A3 n3 c3) ∧ w'.cell? ⟨b9, o9 + j, none⟩ = some (.int .i64 y))
              (first | exact ⟨e0, e1, cy⟩ | go_keep)
              (first
              | (go_at_call 15
                 refine (slev_of KT.out _ _ (by first | exact RC9.out.below (below_more HR3.out HC.out) | exact (RC9.out.below (below_more HR3.out HC.out)).drew)).mono ?_
                 rintro e wn ⟨rfl, hb⟩
                 have HC' : Hid (Below w11.heap.size w11 wn) := Lib.hid (by first | exact below_more HC.out hb | exact below_more HC.out (below_undrew hb))
                 clear HC e0 e1 cy
                 have HC := HC'
                 clear HC' hb
                 have e0 : wn.cell? ⟨w1.heap.size + 1 + 1, 0, none⟩ = some (.int .i64 o.base) := BC9.out.below (below_more HR3.out HC.out) 0 _ rfl
                 have e1 : wn.cell? ⟨w1.heap.size + 1 + 1, 1, none⟩ = some (.slice A3 n3 c3) := BC9.out.below (below_more HR3.out HC.out) 1 _ rfl
                 have cy : wn.cell? ⟨b9, o9 + j, none⟩ = some (.int .i64 y) := (HC.out.cell (block_lt_of_cell CY3.out)).trans CY3.out))
          | fail
          all_goals
            go_wp2
            go_roundw
            case rel => exact ⟨j + 1, by omega, by go_num, Lib.hid (below_more HR3.out HC.out)⟩
            case measure => simp [intOf]; omega
      · have hlt2 : ¬ (j : Int) < (N : Int) := by omega
        clear hlt
        have e0 := BA9.out.below HR.out 0 _ rfl
        have e1 := BA9.out.below HR.out 1 _ rfl
        have ez := Lib.hid (block_lt_of_cell e0)
        have HC := Lib.hid (Below.refl wr.heap.size wr)
        have HTP : Hid (∀ w1 v1 u1 x1, RdLab w1 v1 l → RdLab w1 u1 (plainL 4) → RdLab w1 x1 (plainL 0) → Calls Try.prog 8 #[v1, u1, x1] w1 (RetLab2 l true w1)) := Lib.hid (fun w1 v1 u1 x1 hr hq hu => by have := impl_tainted v1 u1 x1 l (plainL 4) (plainL 0) w1 hr hq hu; rw [taint_plain (taintL_law HT.out).1] at this; exact this)
        have RAr := Lib.hid (RA9.out.below HR.out)
        go_upto_region 21 with fail
        go_cut [19, 20] (fun sa sb wx => Boxed wr l true sa sb wx)
        case first =>
          go_region_held3 (fun w' => w'.cell? ⟨w1.heap.size, 0, none⟩ = some (.int .i64 l.base) ∧ w'.cell? ⟨w1.heap.size, 1, none⟩ = some (.slice A1 n1 c1))
            (first | exact ⟨e0, e1⟩ | go_keep)
            (first
            | (go_at_call_of 17 (Value.int IntKind.i64 4)
               refine (spec_plain 4 _).mono ?_
               rintro e wn ⟨vv, rfl, own, hb⟩
               have HC0 := HC.out.size
               first
               | (have HY : Hid (Fresh wn _) := Lib.hid (by first | exact Fresh.new hb | exact Fresh.new (below_dr hb))
                  have ne0 : w1.heap.size ≠ _ := Nat.ne_of_lt (Nat.lt_of_lt_of_le ez.out HC0)
                  have nf0 := Ne.symm ne0
                  have HYl := HC0)
               | (have HYb := block_lt_of_cell HY.out.c0
                  have HY' := Lib.hid (HY.out.below (by first | exact hb | exact over_alloc hb | exact below_undrew hb | exact over_alloc (below_dr hb) | exact below_undrew (over_alloc hb)))
                  clear HY
                  have HY := HY'
                  clear HY')
               | skip
               try clear hy0 hy1 hq0 hq1
               try (have hy0 := HY.out.c0
                    have hy1 := HY.out.c1
                    have hq0 := HY.out.f0
                    have hq1 := HY.out.f1)
               have HC' : Hid (Below wr.heap.size wr wn) := Lib.hid (by first | exact below_more HC.out hb | exact below_more HC.out (over_alloc hb) | exact below_more HC.out (below_undrew hb) | exact below_more HC.out (over_alloc (below_dr hb)) | exact below_more HC.out (below_undrew (over_alloc hb)))
               clear HC
               have HC := HC'
               clear HC'
               try clear e0 e1
               have e0 : wn.cell? ⟨w1.heap.size, 0, none⟩ = some (.int .i64 l.base) := BA9.out.below (below_more HR.out HC.out) 0 _ rfl
               have e1 : wn.cell? ⟨w1.heap.size, 1, none⟩ = some (.slice A1 n1 c1) := BA9.out.below (below_more HR.out HC.out) 1 _ rfl
               try (have R4' := Lib.hid (R4.out.below (by first | exact hb | exact over_alloc hb | exact below_undrew hb | exact over_alloc (below_dr hb) | exact below_undrew (over_alloc hb)))
                    clear R4
                    have R4 := R4'
                    clear R4')
               try (have R0' := Lib.hid (R0.out.below (by first | exact hb | exact over_alloc hb | exact below_undrew hb | exact over_alloc (below_dr hb) | exact below_undrew (over_alloc hb)))
                    clear R0
                    have R0 := R0'
                    clear R0')
               have R4 := Lib.hid own.rd
               obtain ⟨A21, n21, c21, rfl, -, -, -⟩ := own
               clear hb)
            | (go_at_call_of 17 (Value.int IntKind.i64 0)
               refine (spec_plain 0 _).mono ?_
               rintro e wn ⟨vv, rfl, own, hb⟩
               have HC0 := HC.out.size
               first
               | (have HY : Hid (Fresh wn _) := Lib.hid (by first | exact Fresh.new hb | exact Fresh.new (below_dr hb))
                  have ne0 : w1.heap.size ≠ _ := Nat.ne_of_lt (Nat.lt_of_lt_of_le ez.out HC0)
                  have nf0 := Ne.symm ne0
                  have HYl := HC0)
               | (have HYb := block_lt_of_cell HY.out.c0
                  have HY' := Lib.hid (HY.out.below (by first | exact hb | exact over_alloc hb | exact below_undrew hb | exact over_alloc (below_dr hb) | exact below_undrew (over_alloc hb)))
                  clear HY
                  have HY := HY'
                  clear HY')
               | skip
               try clear hy0 hy1 hq0 hq1
               try (have hy0 := HY.out.c0
                    have hy1 := HY.out.c1
                    have hq0 := HY.out.f0
                    have hq1 := HY.out.f1)
               have HC' : Hid (Below wr.heap.size wr wn) := Lib.hid (by first | exact below_more HC.out hb | exact below_more HC.out (over_alloc hb) | exact below_more HC.out (below_undrew hb) | exact below_more HC.out (over_alloc (below_dr hb)) | exact below_more HC.out (below_undrew (over_alloc hb)))
               clear HC
               have HC := HC'
               clear HC'
               try clear e0 e1
               have e0 : wn.cell? ⟨w1.heap.size, 0, none⟩ = some (.int .i64 l.base) := BA9.out.below (below_more HR.out HC.out) 0 _ rfl
               have e1 : wn.cell? ⟨w1.heap.size, 1, none⟩ = some (.slice A1 n1 c1) := BA9.out.below (below_more HR.out HC.out) 1 _ rfl
               try (have R4' := Lib.hid (R4.out.below (by first | exact hb | exact over_alloc hb | exact below_undrew hb | exact over_alloc (below_dr hb) | exact below_undrew (over_alloc hb)))
                    clear R4
                    have R4 := R4'
                    clear R4')
               try (have R0' := Lib.hid (R0.out.below (by first | exact hb | exact over_alloc hb | exact below_undrew hb | exact over_alloc (below_dr hb) | exact below_undrew (over_alloc hb)))
                    clear R0
                    have R0 := R0'
                    clear R0')
               have R0 := Lib.hid own.rd
               obtain ⟨A22, n22, c22, rfl, -, -, -⟩ := own
               clear hb)
            | (go_at_call 8
               refine (HTP.out _ _ _ _ (RAr.out.below HC.out) (R4.out) (R0.out)).mono ?_
               rintro e wn ⟨vv, rfl, own, hb⟩
               have HC0 := HC.out.size
               first
               | (have HY : Hid (Fresh wn _) := Lib.hid (by first | exact Fresh.new hb | exact Fresh.new (below_dr hb))
                  have ne0 : w1.heap.size ≠ _ := Nat.ne_of_lt (Nat.lt_of_lt_of_le ez.out HC0)
                  have nf0 := Ne.symm ne0
                  have HYl := HC0)
               | (have HYb := block_lt_of_cell HY.out.c0
                  have HY' := Lib.hid (HY.out.below (by first | exact hb | exact over_alloc hb | exact below_undrew hb | exact over_alloc (below_dr hb) | exact below_undrew (over_alloc hb)))
                  clear HY
                  have HY := HY'
                  clear HY')
               | skip
               try clear hy0 hy1 hq0 hq1
               try (have hy0 := HY.out.c0
                    have hy1 := HY.out.c1
                    have hq0 := HY.out.f0
                    have hq1 := HY.out.f1)
               have HC' : Hid (Below wr.heap.size wr wn) := Lib.hid (by first | exact below_more HC.out hb | exact below_more HC.out (over_alloc hb) | exact below_more HC.out (below_undrew hb) | exact below_more HC.out (over_alloc (below_dr hb)) | exact below_more HC.out (below_undrew (over_alloc hb)))
               clear HC
               have HC := HC'
               clear HC'
               try clear e0 e1
               have e0 : wn.cell? ⟨w1.heap.size, 0, none⟩ = some (.int .i64 l.base) := BA9.out.below (below_more HR.out HC.out) 0 _ rfl
               have e1 : wn.cell? ⟨w1.heap.size, 1, none⟩ = some (.slice A1 n1 c1) := BA9.out.below (below_more HR.out HC.out) 1 _ rfl
               try (have R4' := Lib.hid (R4.out.below (by first | exact hb | exact over_alloc hb | exact below_undrew hb | exact over_alloc (below_dr hb) | exact below_undrew (over_alloc hb)))
                    clear R4
                    have R4 := R4'
                    clear R4')
               try (have R0' := Lib.hid (R0.out.below (by first | exact hb | exact over_alloc hb | exact below_undrew hb | exact over_alloc (below_dr hb) | exact below_undrew (over_alloc hb)))
                    clear R0
                    have R0 := R0'
                    clear R0')
               have HOs := HC0
               have OW := Lib.hid own
               obtain ⟨A30, n30, c30, rfl, -, -, -⟩ := own
               clear hb)
            | (go_at_call 8
               refine (HTP.out _ _ _ _ ((RAr.out.below HC.out).alloc _) ((R4.out).alloc _) ((R0.out).alloc _)).mono ?_
               rintro e wn ⟨vv, rfl, own, hb⟩
               have HC0 := HC.out.size
               first
               | (have HY : Hid (Fresh wn _) := Lib.hid (by first | exact Fresh.new hb | exact Fresh.new (below_dr hb))
                  have ne0 : w1.heap.size ≠ _ := Nat.ne_of_lt (Nat.lt_of_lt_of_le ez.out HC0)
                  have nf0 := Ne.symm ne0
                  have HYl := HC0)
               | (have HYb := block_lt_of_cell HY.out.c0
                  have HY' := Lib.hid (HY.out.below (by first | exact hb | exact over_alloc hb | exact below_undrew hb | exact over_alloc (below_dr hb) | exact below_undrew (over_alloc hb)))
                  clear HY
                  have HY := HY'
                  clear HY')
               | skip
               try clear hy0 hy1 hq0 hq1
               try (have hy0 := HY.out.c0
                    have hy1 := HY.out.c1
                    have hq0 := HY.out.f0
                    have hq1 := HY.out.f1)
               have HC' : Hid (Below wr.heap.size wr wn) := Lib.hid (by first | exact below_more HC.out hb | exact below_more HC.out (over_alloc hb) | exact below_more HC.out (below_undrew hb) | exact below_more HC.out (over_alloc (below_dr hb)) | exact below_more HC.out (below_undrew (over_alloc hb)))
               clear HC
               have HC := HC'
               clear HC'
               try clear e0 e1
               have e0 : wn.cell? ⟨w1.heap.size, 0, none⟩ = some (.int .i64 l.base) := BA9.out.below (below_more HR.out HC.out) 0 _ rfl
               have e1 : wn.cell? ⟨w1.heap.size, 1, none⟩ = some (.slice A1 n1 c1) := BA9.out.below (below_more HR.out HC.out) 1 _ rfl
               try (have R4' := Lib.hid (R4.out.below (by first | exact hb | exact over_alloc hb | exact below_undrew hb | exact over_alloc (below_dr hb) | exact below_undrew (over_alloc hb)))
                    clear R4
                    have R4 := R4'
                    clear R4')
               try (have R0' := Lib.hid (R0.out.below (by first | exact hb | exact over_alloc hb | exact below_undrew hb | exact over_alloc (below_dr hb) | exact below_undrew (over_alloc hb)))
                    clear R0
                    have R0 := R0'
                    clear R0')
               have HOs := HC0
               have OW := Lib.hid own
               obtain ⟨A30, n30, c30, rfl, -, -, -⟩ := own
               clear hb))
          all_goals
            go_wp2_with fail
            go_meet
            first
            | exact Boxed.laid HC.out OW.out HOs
            | exact Boxed.stored HC.out HYl HY.out OW.out (by first | exact HYb | (simp; done) | omega)
        obtain ⟨g, A20, n20, c20, rfl, rfl, hb, hgo, u0, u1, own⟩ := hcut
        have f0 := BA9.out.below (below_more HR.out hb) 0 _ rfl
        have f1 := BA9.out.below (below_more HR.out hb) 1 _ rfl
        have RO := Lib.hid own.rd
        have RAc := Lib.hid (RAr.out.below hb)
        have BEL := Lib.hid (below_more (below_more bel9.out HR.out) hb)
        clear own hb HC RAr HTP ez e0 e1
        go_wp2_with fail
        refine (like_lab _ _ l _ RO.out RAc.out).mono ?_
        rintro e w12 ⟨rfl, hb⟩
        go_wp2
        go_ret
        exact ⟨rfl, below_more BEL.out hb⟩
  · go_enter Try.func3, Try.ntmps3
    go_wp2_with fail
    refine (big_yes a len cap _ (by omega)).mono ?_
    rintro e w1 ⟨rfl, rfl⟩
    go_wp2
    go_ret
    exact ⟨rfl, .refl _ _⟩

set_option maxRecDepth 100000 in
theorem lifted (os : Os) (started : os.Started) (H : Type) (enc : TypeId × Value → H) :
    ReturnsInHanded {} Try.checked os 3 .any (Rows.fnTaintSpec.pre6 enc Try.prog Try.f3 Rows.fnTaintRow.domain false) (Rows.fnTaintSpec.post enc Try.prog Try.f3 false true false false) := by
  refine returnsInHanded_of_change (C := Try.checked) own started (by kernel_rfl) Try.func3
    (ChangeSpec.witness6 (enc := enc) (C := Try.checked) false ⟨#[], #[.slice none 0 0], []⟩ 8 (by kernel_rfl) (by kernel_rfl) (by kernel_rfl) (by kernel_rfl)) ?_
  intro W base args ds gs before hval0 hW hcnd _
  have hval : ∀ (j : Nat) t v, Try.f3.params[j]? = some t → args[j]? = some v → Value.okWide Try.prog W .any base t v := hval0
  have hW' := hW
  obtain ⟨p, q, hA0, hV, rfl, hfz, hnd⟩ := hW
  have hA : DataW.TrodAll enc Try.prog W 0 (fun _ => true) true Try.f3.params.toList args.toList ds p := hA0
  rw [Try.params3] at hA hval
  obtain ⟨v0, vs0, d0, ds0, p0, q0, hargs, rfl, rfl, h0, r0⟩ := trodAll_cons hA
  obtain ⟨rfl, rfl, rfl⟩ := trodAll_nil r0
  obtain rfl : args = #[v0] := by cases args; simp_all
  obtain ⟨rfl, rfl⟩ := trodVars_none hV
  have k0 := h0
  have lt0 : ∀ x ∈ p0, x.block < W.heap.size := by obtain ⟨m, hm⟩ := k0; exact DataW.trod_lt m _ _ _ hm
  obtain ⟨a0, len0, cap0, rfl, z0, w0⟩ := open_bytes (hval 0 22 v0 rfl rfl) h0
  clear hA0 hval0
  refine (walk a0 len0 cap0 z0 w0 (w := W)).mono fun e W' ⟨he, bel⟩ => ?_
  subst he
  exact ⟨_, rfl, _, _, _, [], _, [], hW', (trodAll_cons_mk (shut_bool Try.underlying4 _) trodAll_mk0), (trodAll_cons_mk (Below.trod laidOut (by kernel_rfl) (of_decide_eq_true (by kernel_rfl)) k0 bel lt0) trodAll_mk0), rfl, bel.frame _, fun h => by cases h⟩

theorem said : Rows.FnTaintSaid :=
  OpenClaim.holds_of_wide 3 Try.f3 rfl rfl rfl rfl rfl rfl rfl ⟨rfl, rfl, rfl, rfl, rfl⟩ rfl rfl rfl rfl rfl (by kernel_rfl) Try.func3 (by kernel_rfl)
    (of_decide_eq_true (by kernel_rfl)) (by unfold Func.isWrapper; first | (rw [if_pos (by decide +kernel)]; kernel_rfl) | (rw [if_neg (by decide +kernel)]; exact ⟨rfl, rfl⟩))
    (fun os started H enc _ => lifted os started H enc)

theorem proved : Rows.FnTaintSaid := said
#print axioms proved
end Go.Proofs.Ytjdnobihhkmmpaa.fnTaint
