/-
  FnExactMsgOk: whatever the input, the law returns true and its arguments read as they did; no condition.
-/
import Derived.Test.YtnpeojlhjbdjiaaBase
import Derived.Test.YtnpeojlhjbdjiaaRows
import Derived.Test.YtnpeojlhjbdjiaaDOMs
import Derived.Test.YtnpeojlhjbdjiaaImplDoor
namespace Go.Proofs.Ytnpeojlhjbdjiaa.fnExactMsgOk
set_option maxRecDepth 100000
open Go.ChangeShapes Go.WideShapes Go.ChangeAt Go.RowKit
open Go.ChangeMaps (open_string shut_string)
set_option linter.unusedVariables false

set_option maxHeartbeats 8000000 in
theorem walk {w : World} {us0 : List Value} {d0 : Ms} (h0 : Rds w (dtMs d0) us0) :
    Calls Try.prog 3 #[.agg us0.toArray] w fun e w' => e = .returned (.bool true) ∧ Below w.heap.size w w' := by
  have g0 := Lib.hid h0
  obtain ⟨Ap0_0, np0_0, cp0_0, Ap0_1, np0_1, cp0_1, Ap0_2, np0_2, cp0_2, Ap0_3, np0_3, cp0_3, Ap0_4, np0_4, cp0_4, rfl⟩ := shp_ms h0
  clear h0
  by_cases e0 : (1048576 : Int) < (msSz d0 : Nat)
  · skip
    have HL0 := Lib.hid (lft_no e0)
    go_enter Try.func3, Try.ntmps3
    go_wp2_with fail
    generalize hW : w.alloc (.cells #[.int .i64 d0.frm, .int .i64 d0.value, .int .i64 d0.eff.base, .slice Ap0_0 np0_0 cp0_0, .int .i64 d0.terms.taint.base, .slice Ap0_1 np0_1 cp0_1, .int .i64 d0.terms.clear.base, .slice Ap0_2 np0_2 cp0_2, .int .i64 d0.terms.raise.base, .slice Ap0_3 np0_3 cp0_3, .int .i64 d0.terms.verify.base, .slice Ap0_4 np0_4 cp0_4] 28) = x0
    obtain ⟨nb0, hsz, hb⟩ := laid1 (ps := [.int .i64 d0.frm, .int .i64 d0.value, .int .i64 d0.eff.base, .slice Ap0_0 np0_0 cp0_0, .int .i64 d0.terms.taint.base, .slice Ap0_1 np0_1 cp0_1, .int .i64 d0.terms.clear.base, .slice Ap0_2 np0_2 cp0_2, .int .i64 d0.terms.raise.base, .slice Ap0_3 np0_3 cp0_3, .int .i64 d0.terms.verify.base, .slice Ap0_4 np0_4 cp0_4]) hW
    have bel' : Below w.heap.size w x0 := hb
    clear hb
    have bel := bel'
    clear bel'
    have P0 := Lib.hid nb0
    clear hW hsz nb0
    refine (szD_ms (left := 1048576) (g0.out.below bel) (by omega) (by omega)).mono ?_
    rintro e y1 ⟨rfl, hb⟩
    have P0' := Lib.hid (P0.out.below hb)
    clear P0
    have P0 := P0'
    clear P0'
    have bel' : Below w.heap.size w y1 := below_more bel hb
    clear bel hb
    have bel := bel'
    clear bel'
    rw [HL0.out]
    go_wp2
    go_ret
    exact ⟨rfl, bel⟩
  have F0 : msSz d0 ≤ 1048576 := by omega
  have HL0 := Lib.hid (lft_yes (show ((msSz d0 : Nat) : Int) ≤ 1048576 by omega))
  have u0 : ¬ ((1048576 - (msSz d0 : Nat) : Int) < 0) := by omega
  go_enter Try.func3, Try.ntmps3
  go_wp2_with fail
  generalize hW : w.alloc (.cells #[.int .i64 d0.frm, .int .i64 d0.value, .int .i64 d0.eff.base, .slice Ap0_0 np0_0 cp0_0, .int .i64 d0.terms.taint.base, .slice Ap0_1 np0_1 cp0_1, .int .i64 d0.terms.clear.base, .slice Ap0_2 np0_2 cp0_2, .int .i64 d0.terms.raise.base, .slice Ap0_3 np0_3 cp0_3, .int .i64 d0.terms.verify.base, .slice Ap0_4 np0_4 cp0_4] 28) = x0
  obtain ⟨nb0, hsz, hb⟩ := laid1 (ps := [.int .i64 d0.frm, .int .i64 d0.value, .int .i64 d0.eff.base, .slice Ap0_0 np0_0 cp0_0, .int .i64 d0.terms.taint.base, .slice Ap0_1 np0_1 cp0_1, .int .i64 d0.terms.clear.base, .slice Ap0_2 np0_2 cp0_2, .int .i64 d0.terms.raise.base, .slice Ap0_3 np0_3 cp0_3, .int .i64 d0.terms.verify.base, .slice Ap0_4 np0_4 cp0_4]) hW
  have bel' : Below w.heap.size w x0 := hb
  clear hb
  have bel := bel'
  clear bel'
  have P0 := Lib.hid nb0
  clear hW hsz nb0
  refine (szD_ms (left := 1048576) (g0.out.below bel) (by omega) (by omega)).mono ?_
  rintro e y1 ⟨rfl, hb⟩
  have P0' := Lib.hid (P0.out.below hb)
  clear P0
  have P0 := P0'
  clear P0'
  have bel' : Below w.heap.size w y1 := below_more bel hb
  clear bel hb
  have bel := bel'
  clear bel'
  rw [HL0.out]
  have P0k0 := P0.out.cell 0 rfl
  have P0k1 := P0.out.cell 1 rfl
  have P0k2 := P0.out.cell 2 rfl
  have P0k3 := P0.out.cell 3 rfl
  have P0k4 := P0.out.cell 4 rfl
  have P0k5 := P0.out.cell 5 rfl
  have P0k6 := P0.out.cell 6 rfl
  have P0k7 := P0.out.cell 7 rfl
  have P0k8 := P0.out.cell 8 rfl
  have P0k9 := P0.out.cell 9 rfl
  have P0k10 := P0.out.cell 10 rfl
  have P0k11 := P0.out.cell 11 rfl
  have P0kz := P0.out.lt
  go_wp2_with fail
  refine (toD_ms (g0.out.below bel) F0).mono ?_
  rintro e y2 ⟨uv, rfl, own, hb⟩
  clear P0k0 P0k1 P0k2 P0k3 P0k4 P0k5 P0k6 P0k7 P0k8 P0k9 P0k10 P0k11 P0kz
  have P0' := Lib.hid (P0.out.below hb)
  clear P0
  have P0 := P0'
  clear P0'
  have bel' : Below w.heap.size w y2 := below_more bel hb
  clear bel hb
  have bel := bel'
  clear bel'
  have R0 := Lib.hid own.rd
  obtain ⟨Ar0_0, nr0_0, cr0_0, Ar0_1, nr0_1, cr0_1, Ar0_2, nr0_2, cr0_2, Ar0_3, nr0_3, cr0_3, Ar0_4, nr0_4, cr0_4, rfl⟩ := shp_ms own.rd
  clear own
  go_wp2_with fail
  refine (specD_msgok R0.out F0).mono ?_
  rintro e y3 ⟨rfl, hb⟩
  have P0' := Lib.hid (P0.out.below hb)
  clear P0
  have P0 := P0'
  clear P0'
  have R0' := Lib.hid (R0.out.below hb)
  clear R0
  have R0 := R0'
  clear R0'
  have bel' : Below w.heap.size w y3 := below_more bel hb
  clear bel hb
  have bel := bel'
  clear bel'
  clear R0
  have P0k0 := P0.out.cell 0 rfl
  have P0k1 := P0.out.cell 1 rfl
  have P0k2 := P0.out.cell 2 rfl
  have P0k3 := P0.out.cell 3 rfl
  have P0k4 := P0.out.cell 4 rfl
  have P0k5 := P0.out.cell 5 rfl
  have P0k6 := P0.out.cell 6 rfl
  have P0k7 := P0.out.cell 7 rfl
  have P0k8 := P0.out.cell 8 rfl
  have P0k9 := P0.out.cell 9 rfl
  have P0k10 := P0.out.cell 10 rfl
  have P0k11 := P0.out.cell 11 rfl
  have P0kz := P0.out.lt
  go_wp2_with fail
  refine (toD_ms (by first | exact (g0.out.below bel) | exact g0.out.below (bel.alloc bel.size _)) F0).mono ?_
  rintro e y4 ⟨uv, rfl, own, hb⟩
  clear P0k0 P0k1 P0k2 P0k3 P0k4 P0k5 P0k6 P0k7 P0k8 P0k9 P0k10 P0k11 P0kz
  have P0' := Lib.hid (P0.out.below hb)
  clear P0
  have P0 := P0'
  clear P0'
  have bel' : Below w.heap.size w y4 := below_more bel hb
  clear bel hb
  have bel := bel'
  clear bel'
  have X0 := Lib.hid own.rd
  obtain ⟨Ax0_0, nx0_0, cx0_0, Ax0_1, nx0_1, cx0_1, Ax0_2, nx0_2, cx0_2, Ax0_3, nx0_3, cx0_3, Ax0_4, nx0_4, cx0_4, rfl⟩ := shp_ms own.rd
  clear own
  go_wp2_with fail
  generalize hW : y4.alloc (.cells #[.int .i64 d0.frm, .int .i64 d0.value, .int .i64 d0.eff.base, .slice Ax0_0 nx0_0 cx0_0, .int .i64 d0.terms.taint.base, .slice Ax0_1 nx0_1 cx0_1, .int .i64 d0.terms.clear.base, .slice Ax0_2 nx0_2 cx0_2, .int .i64 d0.terms.raise.base, .slice Ax0_3 nx0_3 cx0_3, .int .i64 d0.terms.verify.base, .slice Ax0_4 nx0_4 cx0_4] 37) = x5
  obtain ⟨nb0, hsz, hb⟩ := laid1 (ps := [.int .i64 d0.frm, .int .i64 d0.value, .int .i64 d0.eff.base, .slice Ax0_0 nx0_0 cx0_0, .int .i64 d0.terms.taint.base, .slice Ax0_1 nx0_1 cx0_1, .int .i64 d0.terms.clear.base, .slice Ax0_2 nx0_2 cx0_2, .int .i64 d0.terms.raise.base, .slice Ax0_3 nx0_3 cx0_3, .int .i64 d0.terms.verify.base, .slice Ax0_4 nx0_4 cx0_4]) hW
  have P0' := Lib.hid (P0.out.below hb)
  clear P0
  have P0 := P0'
  clear P0'
  have X0' := Lib.hid (X0.out.below hb)
  clear X0
  have X0 := X0'
  clear X0'
  have bel' : Below w.heap.size w x5 := below_more bel hb
  clear bel hb
  have bel := bel'
  clear bel'
  have Q0 := Lib.hid nb0
  clear hW hsz nb0
  refine (implD_msgok X0.out F0).mono ?_
  rintro e y6 ⟨rfl, hb⟩
  have P0' := Lib.hid (P0.out.below hb)
  clear P0
  have P0 := P0'
  clear P0'
  have Q0' := Lib.hid (Q0.out.below hb)
  clear Q0
  have Q0 := Q0'
  clear Q0'
  have X0' := Lib.hid (X0.out.below hb)
  clear X0
  have X0 := X0'
  clear X0'
  have bel' : Below w.heap.size w y6 := below_more bel hb
  clear bel hb
  have bel := bel'
  clear bel'
  have P0k0 := P0.out.cell 0 rfl
  have P0k1 := P0.out.cell 1 rfl
  have P0k2 := P0.out.cell 2 rfl
  have P0k3 := P0.out.cell 3 rfl
  have P0k4 := P0.out.cell 4 rfl
  have P0k5 := P0.out.cell 5 rfl
  have P0k6 := P0.out.cell 6 rfl
  have P0k7 := P0.out.cell 7 rfl
  have P0k8 := P0.out.cell 8 rfl
  have P0k9 := P0.out.cell 9 rfl
  have P0k10 := P0.out.cell 10 rfl
  have P0k11 := P0.out.cell 11 rfl
  have P0kz := P0.out.lt
  have Q0k0 := Q0.out.cell 0 rfl
  have Q0k1 := Q0.out.cell 1 rfl
  have Q0k2 := Q0.out.cell 2 rfl
  have Q0k3 := Q0.out.cell 3 rfl
  have Q0k4 := Q0.out.cell 4 rfl
  have Q0k5 := Q0.out.cell 5 rfl
  have Q0k6 := Q0.out.cell 6 rfl
  have Q0k7 := Q0.out.cell 7 rfl
  have Q0k8 := Q0.out.cell 8 rfl
  have Q0k9 := Q0.out.cell 9 rfl
  have Q0k10 := Q0.out.cell 10 rfl
  have Q0k11 := Q0.out.cell 11 rfl
  have Q0kz := Q0.out.lt
  have HC := Lib.hid (Below.refl y6.heap.size y6)
  go_wp2
  go_region_held3 (fun w' => w'.cell? ⟨w.heap.size, 0, none⟩ = some (.int .i64 d0.frm) ∧ w'.cell? ⟨w.heap.size, 1, none⟩ = some (.int .i64 d0.value) ∧ w'.cell? ⟨w.heap.size, 2, none⟩ = some (.int .i64 d0.eff.base) ∧ w'.cell? ⟨w.heap.size, 3, none⟩ = some (.slice Ap0_0 np0_0 cp0_0) ∧ w'.cell? ⟨w.heap.size, 4, none⟩ = some (.int .i64 d0.terms.taint.base) ∧ w'.cell? ⟨w.heap.size, 5, none⟩ = some (.slice Ap0_1 np0_1 cp0_1) ∧ w'.cell? ⟨w.heap.size, 6, none⟩ = some (.int .i64 d0.terms.clear.base) ∧ w'.cell? ⟨w.heap.size, 7, none⟩ = some (.slice Ap0_2 np0_2 cp0_2) ∧ w'.cell? ⟨w.heap.size, 8, none⟩ = some (.int .i64 d0.terms.raise.base) ∧ w'.cell? ⟨w.heap.size, 9, none⟩ = some (.slice Ap0_3 np0_3 cp0_3) ∧ w'.cell? ⟨w.heap.size, 10, none⟩ = some (.int .i64 d0.terms.verify.base) ∧ w'.cell? ⟨w.heap.size, 11, none⟩ = some (.slice Ap0_4 np0_4 cp0_4) ∧ w'.cell? ⟨y4.heap.size, 0, none⟩ = some (.int .i64 d0.frm) ∧ w'.cell? ⟨y4.heap.size, 1, none⟩ = some (.int .i64 d0.value) ∧ w'.cell? ⟨y4.heap.size, 2, none⟩ = some (.int .i64 d0.eff.base) ∧ w'.cell? ⟨y4.heap.size, 3, none⟩ = some (.slice Ax0_0 nx0_0 cx0_0) ∧ w'.cell? ⟨y4.heap.size, 4, none⟩ = some (.int .i64 d0.terms.taint.base) ∧ w'.cell? ⟨y4.heap.size, 5, none⟩ = some (.slice Ax0_1 nx0_1 cx0_1) ∧ w'.cell? ⟨y4.heap.size, 6, none⟩ = some (.int .i64 d0.terms.clear.base) ∧ w'.cell? ⟨y4.heap.size, 7, none⟩ = some (.slice Ax0_2 nx0_2 cx0_2) ∧ w'.cell? ⟨y4.heap.size, 8, none⟩ = some (.int .i64 d0.terms.raise.base) ∧ w'.cell? ⟨y4.heap.size, 9, none⟩ = some (.slice Ax0_3 nx0_3 cx0_3) ∧ w'.cell? ⟨y4.heap.size, 10, none⟩ = some (.int .i64 d0.terms.verify.base) ∧ w'.cell? ⟨y4.heap.size, 11, none⟩ = some (.slice Ax0_4 nx0_4 cx0_4))
    (first | exact ⟨ff0, ff1, ff2, ff3, ff4, ff5, ff6, ff7, ff8, ff9, ff10, ff11, ff12, ff13, ff14, ff15, ff16, ff17, ff18, ff19, ff20, ff21, ff22, ff23⟩ | go_keep)
    (first
    | (go_at_call 9
       refine (toD_ms (by first | exact g0.out.below (below_more bel HC.out) | exact (g0.out.below (below_more bel HC.out)).below (Below.refl _ _).drew) F0).mono ?_
       rintro e wn ⟨uv, rfl, own, hb⟩
       have HC' : Hid (Below y6.heap.size y6 wn) := Lib.hid (by first | exact below_more HC.out hb | exact below_more HC.out (below_undrew hb))
       clear HC
       have HC := HC'
       clear HC'
       try clear ff0 ff1 ff2 ff3 ff4 ff5 ff6 ff7 ff8 ff9 ff10 ff11 ff12 ff13 ff14 ff15 ff16 ff17 ff18 ff19 ff20 ff21 ff22 ff23
       have ff0 : wn.cell? ⟨w.heap.size, 0, none⟩ = some (.int .i64 d0.frm) := (P0.out.below HC.out).cell 0 rfl
       have ff1 : wn.cell? ⟨w.heap.size, 1, none⟩ = some (.int .i64 d0.value) := (P0.out.below HC.out).cell 1 rfl
       have ff2 : wn.cell? ⟨w.heap.size, 2, none⟩ = some (.int .i64 d0.eff.base) := (P0.out.below HC.out).cell 2 rfl
       have ff3 : wn.cell? ⟨w.heap.size, 3, none⟩ = some (.slice Ap0_0 np0_0 cp0_0) := (P0.out.below HC.out).cell 3 rfl
       have ff4 : wn.cell? ⟨w.heap.size, 4, none⟩ = some (.int .i64 d0.terms.taint.base) := (P0.out.below HC.out).cell 4 rfl
       have ff5 : wn.cell? ⟨w.heap.size, 5, none⟩ = some (.slice Ap0_1 np0_1 cp0_1) := (P0.out.below HC.out).cell 5 rfl
       have ff6 : wn.cell? ⟨w.heap.size, 6, none⟩ = some (.int .i64 d0.terms.clear.base) := (P0.out.below HC.out).cell 6 rfl
       have ff7 : wn.cell? ⟨w.heap.size, 7, none⟩ = some (.slice Ap0_2 np0_2 cp0_2) := (P0.out.below HC.out).cell 7 rfl
       have ff8 : wn.cell? ⟨w.heap.size, 8, none⟩ = some (.int .i64 d0.terms.raise.base) := (P0.out.below HC.out).cell 8 rfl
       have ff9 : wn.cell? ⟨w.heap.size, 9, none⟩ = some (.slice Ap0_3 np0_3 cp0_3) := (P0.out.below HC.out).cell 9 rfl
       have ff10 : wn.cell? ⟨w.heap.size, 10, none⟩ = some (.int .i64 d0.terms.verify.base) := (P0.out.below HC.out).cell 10 rfl
       have ff11 : wn.cell? ⟨w.heap.size, 11, none⟩ = some (.slice Ap0_4 np0_4 cp0_4) := (P0.out.below HC.out).cell 11 rfl
       have ff12 : wn.cell? ⟨y4.heap.size, 0, none⟩ = some (.int .i64 d0.frm) := (Q0.out.below HC.out).cell 0 rfl
       have ff13 : wn.cell? ⟨y4.heap.size, 1, none⟩ = some (.int .i64 d0.value) := (Q0.out.below HC.out).cell 1 rfl
       have ff14 : wn.cell? ⟨y4.heap.size, 2, none⟩ = some (.int .i64 d0.eff.base) := (Q0.out.below HC.out).cell 2 rfl
       have ff15 : wn.cell? ⟨y4.heap.size, 3, none⟩ = some (.slice Ax0_0 nx0_0 cx0_0) := (Q0.out.below HC.out).cell 3 rfl
       have ff16 : wn.cell? ⟨y4.heap.size, 4, none⟩ = some (.int .i64 d0.terms.taint.base) := (Q0.out.below HC.out).cell 4 rfl
       have ff17 : wn.cell? ⟨y4.heap.size, 5, none⟩ = some (.slice Ax0_1 nx0_1 cx0_1) := (Q0.out.below HC.out).cell 5 rfl
       have ff18 : wn.cell? ⟨y4.heap.size, 6, none⟩ = some (.int .i64 d0.terms.clear.base) := (Q0.out.below HC.out).cell 6 rfl
       have ff19 : wn.cell? ⟨y4.heap.size, 7, none⟩ = some (.slice Ax0_2 nx0_2 cx0_2) := (Q0.out.below HC.out).cell 7 rfl
       have ff20 : wn.cell? ⟨y4.heap.size, 8, none⟩ = some (.int .i64 d0.terms.raise.base) := (Q0.out.below HC.out).cell 8 rfl
       have ff21 : wn.cell? ⟨y4.heap.size, 9, none⟩ = some (.slice Ax0_3 nx0_3 cx0_3) := (Q0.out.below HC.out).cell 9 rfl
       have ff22 : wn.cell? ⟨y4.heap.size, 10, none⟩ = some (.int .i64 d0.terms.verify.base) := (Q0.out.below HC.out).cell 10 rfl
       have ff23 : wn.cell? ⟨y4.heap.size, 11, none⟩ = some (.slice Ax0_4 nx0_4 cx0_4) := (Q0.out.below HC.out).cell 11 rfl
       have R9 := Lib.hid own.rd
       obtain ⟨As0_0, ns0_0, cs0_0, As0_1, ns0_1, cs0_1, As0_2, ns0_2, cs0_2, As0_3, ns0_3, cs0_3, As0_4, ns0_4, cs0_4, rfl⟩ := shp_ms own.rd
       clear own
       clear hb)
    | (go_at_call 11
       refine (eqD_ms (by first | exact X0.out.below HC.out | exact (X0.out.below HC.out).below (Below.refl _ _).drew) (by first | exact R9.out | exact R9.out.below (Below.refl _ _).drew) F0).mono ?_
       rintro e wn ⟨rfl, hb⟩
       have HC' : Hid (Below y6.heap.size y6 wn) := Lib.hid (by first | exact below_more HC.out hb | exact below_more HC.out (below_undrew hb))
       clear HC
       have HC := HC'
       clear HC'
       try clear ff0 ff1 ff2 ff3 ff4 ff5 ff6 ff7 ff8 ff9 ff10 ff11 ff12 ff13 ff14 ff15 ff16 ff17 ff18 ff19 ff20 ff21 ff22 ff23
       have ff0 : wn.cell? ⟨w.heap.size, 0, none⟩ = some (.int .i64 d0.frm) := (P0.out.below HC.out).cell 0 rfl
       have ff1 : wn.cell? ⟨w.heap.size, 1, none⟩ = some (.int .i64 d0.value) := (P0.out.below HC.out).cell 1 rfl
       have ff2 : wn.cell? ⟨w.heap.size, 2, none⟩ = some (.int .i64 d0.eff.base) := (P0.out.below HC.out).cell 2 rfl
       have ff3 : wn.cell? ⟨w.heap.size, 3, none⟩ = some (.slice Ap0_0 np0_0 cp0_0) := (P0.out.below HC.out).cell 3 rfl
       have ff4 : wn.cell? ⟨w.heap.size, 4, none⟩ = some (.int .i64 d0.terms.taint.base) := (P0.out.below HC.out).cell 4 rfl
       have ff5 : wn.cell? ⟨w.heap.size, 5, none⟩ = some (.slice Ap0_1 np0_1 cp0_1) := (P0.out.below HC.out).cell 5 rfl
       have ff6 : wn.cell? ⟨w.heap.size, 6, none⟩ = some (.int .i64 d0.terms.clear.base) := (P0.out.below HC.out).cell 6 rfl
       have ff7 : wn.cell? ⟨w.heap.size, 7, none⟩ = some (.slice Ap0_2 np0_2 cp0_2) := (P0.out.below HC.out).cell 7 rfl
       have ff8 : wn.cell? ⟨w.heap.size, 8, none⟩ = some (.int .i64 d0.terms.raise.base) := (P0.out.below HC.out).cell 8 rfl
       have ff9 : wn.cell? ⟨w.heap.size, 9, none⟩ = some (.slice Ap0_3 np0_3 cp0_3) := (P0.out.below HC.out).cell 9 rfl
       have ff10 : wn.cell? ⟨w.heap.size, 10, none⟩ = some (.int .i64 d0.terms.verify.base) := (P0.out.below HC.out).cell 10 rfl
       have ff11 : wn.cell? ⟨w.heap.size, 11, none⟩ = some (.slice Ap0_4 np0_4 cp0_4) := (P0.out.below HC.out).cell 11 rfl
       have ff12 : wn.cell? ⟨y4.heap.size, 0, none⟩ = some (.int .i64 d0.frm) := (Q0.out.below HC.out).cell 0 rfl
       have ff13 : wn.cell? ⟨y4.heap.size, 1, none⟩ = some (.int .i64 d0.value) := (Q0.out.below HC.out).cell 1 rfl
       have ff14 : wn.cell? ⟨y4.heap.size, 2, none⟩ = some (.int .i64 d0.eff.base) := (Q0.out.below HC.out).cell 2 rfl
       have ff15 : wn.cell? ⟨y4.heap.size, 3, none⟩ = some (.slice Ax0_0 nx0_0 cx0_0) := (Q0.out.below HC.out).cell 3 rfl
       have ff16 : wn.cell? ⟨y4.heap.size, 4, none⟩ = some (.int .i64 d0.terms.taint.base) := (Q0.out.below HC.out).cell 4 rfl
       have ff17 : wn.cell? ⟨y4.heap.size, 5, none⟩ = some (.slice Ax0_1 nx0_1 cx0_1) := (Q0.out.below HC.out).cell 5 rfl
       have ff18 : wn.cell? ⟨y4.heap.size, 6, none⟩ = some (.int .i64 d0.terms.clear.base) := (Q0.out.below HC.out).cell 6 rfl
       have ff19 : wn.cell? ⟨y4.heap.size, 7, none⟩ = some (.slice Ax0_2 nx0_2 cx0_2) := (Q0.out.below HC.out).cell 7 rfl
       have ff20 : wn.cell? ⟨y4.heap.size, 8, none⟩ = some (.int .i64 d0.terms.raise.base) := (Q0.out.below HC.out).cell 8 rfl
       have ff21 : wn.cell? ⟨y4.heap.size, 9, none⟩ = some (.slice Ax0_3 nx0_3 cx0_3) := (Q0.out.below HC.out).cell 9 rfl
       have ff22 : wn.cell? ⟨y4.heap.size, 10, none⟩ = some (.int .i64 d0.terms.verify.base) := (Q0.out.below HC.out).cell 10 rfl
       have ff23 : wn.cell? ⟨y4.heap.size, 11, none⟩ = some (.slice Ax0_4 nx0_4 cx0_4) := (Q0.out.below HC.out).cell 11 rfl
       skip
       clear hb))
  obtain ⟨y7, hwn⟩ : ∃ y7, y7 = wn := ⟨_, rfl⟩
  rw [← hwn] at HC ⊢
  have hb := HC.out
  clear HC hwn ff0 ff1 ff2 ff3 ff4 ff5 ff6 ff7 ff8 ff9 ff10 ff11 ff12 ff13 ff14 ff15 ff16 ff17 ff18 ff19 ff20 ff21 ff22 ff23
  clear P0k0 P0k1 P0k2 P0k3 P0k4 P0k5 P0k6 P0k7 P0k8 P0k9 P0k10 P0k11 P0kz Q0k0 Q0k1 Q0k2 Q0k3 Q0k4 Q0k5 Q0k6 Q0k7 Q0k8 Q0k9 Q0k10 Q0k11 Q0kz
  have P0' := Lib.hid (P0.out.below hb)
  clear P0
  have P0 := P0'
  clear P0'
  have Q0' := Lib.hid (Q0.out.below hb)
  clear Q0
  have Q0 := Q0'
  clear Q0'
  have X0' := Lib.hid (X0.out.below hb)
  clear X0
  have X0 := X0'
  clear X0'
  have bel' : Below w.heap.size w y7 := below_more bel hb
  clear bel hb
  have bel := bel'
  clear bel'
  clear R9
  go_wp2
  go_ret
  exact ⟨rfl, bel⟩

set_option maxRecDepth 100000 in
theorem lifted (os : Os) (started : os.Started) (H : Type) (enc : TypeId × Value → H) :
    ReturnsInHanded {} Try.checked os 3 .any (Rows.fnExactMsgOkSpec.pre6 enc Try.prog Try.f3 Rows.fnExactMsgOkRow.domain false) (Rows.fnExactMsgOkSpec.post enc Try.prog Try.f3 false true false false) := by
  refine returnsInHanded_of_change (C := Try.checked) own started (by kernel_rfl) Try.func3
    (ChangeSpec.witness6 (enc := enc) (C := Try.checked) false ⟨#[], #[.agg #[.int .i64 0, .int .i64 0, .int .i64 0, .slice none 0 0, .int .i64 0, .slice none 0 0, .int .i64 0, .slice none 0 0, .int .i64 0, .slice none 0 0, .int .i64 0, .slice none 0 0]], []⟩ 8 (by kernel_rfl) (by kernel_rfl) (by kernel_rfl) (by kernel_rfl)) ?_
  intro W base args ds gs before hval0 hW hcnd _
  have hval : ∀ (j : Nat) t v, Try.f3.params[j]? = some t → args[j]? = some v → Value.okWide Try.prog W .any base t v := hval0
  have hW' := hW
  obtain ⟨p, q, hA0, hV, rfl, hfz, hnd⟩ := hW
  have hA : DataW.TrodAll enc Try.prog W 0 (fun _ => true) true Try.f3.params.toList args.toList ds p := hA0
  rw [Try.params3] at hA hval
  obtain ⟨v0, vs0, d0, ds0, p0, q0, hargs, rfl, rfl, h0, r0⟩ := trodAll_cons hA
  obtain ⟨rfl, rfl, rfl⟩ := trodAll_nil r0
  obtain rfl : args = #[v0] := by cases args; simp_all
  obtain ⟨rfl, rfl⟩ := trodVars_none hV
  have k0 := h0
  have lt0 : ∀ x ∈ p0, x.block < W.heap.size := by obtain ⟨m, hm⟩ := k0; exact DataW.trod_lt m _ _ _ hm
  obtain ⟨us0, x0, rfl, hx0⟩ := openD_ms (hval 0 28 v0 rfl rfl) h0
  clear hA0 hval0
  refine (walk hx0 (w := W)).mono fun e W' ⟨he, bel⟩ => ?_
  subst he
  exact ⟨_, rfl, _, _, _, [], _, [], hW', (trodAll_cons_mk (shut_bool Try.underlying4 _) trodAll_mk0), (trodAll_cons_mk (Below.trod laidOut (by kernel_rfl) (of_decide_eq_true (by kernel_rfl)) k0 bel lt0) trodAll_mk0), rfl, bel.frame _, fun h => by cases h⟩

theorem said : Rows.FnExactMsgOkSaid :=
  OpenClaim.holds_of_wide 3 Try.f3 rfl rfl rfl rfl rfl rfl rfl ⟨rfl, rfl, rfl, rfl, rfl⟩ rfl rfl rfl rfl rfl (by kernel_rfl) Try.func3 (by kernel_rfl)
    (of_decide_eq_true (by kernel_rfl)) (by unfold Func.isWrapper; first | (rw [if_pos (by decide +kernel)]; kernel_rfl) | (rw [if_neg (by decide +kernel)]; exact ⟨rfl, rfl⟩))
    (fun os started H enc _ => lifted os started H enc)

theorem proved : Rows.FnExactMsgOkSaid := said
#print axioms proved
end Go.Proofs.Ytnpeojlhjbdjiaa.fnExactMsgOk
