/-
  FnExactDoorOk: whatever the input, the law returns true and its arguments read as they did; no condition.
-/
import Derived.Test.YtnpeojlhjbdjiaaBase
import Derived.Test.YtnpeojlhjbdjiaaRows
import Derived.Test.YtnpeojlhjbdjiaaDODoor
import Derived.Test.YtnpeojlhjbdjiaaImplDoor
namespace Go.Proofs.Ytnpeojlhjbdjiaa.fnExactDoorOk
set_option maxRecDepth 100000
open Go.ChangeShapes Go.WideShapes Go.ChangeAt Go.RowKit
open Go.ChangeMaps (open_string shut_string)
set_option linter.unusedVariables false

set_option maxHeartbeats 8000000 in
theorem walk {w : World} {us0 : List Value} {d0 : Door} (h0 : Rds w (dtDoor d0) us0) (q0 : WfDoor d0) :
    Calls Try.prog 4 #[.agg us0.toArray] w fun e w' => e = .returned (.bool true) ∧ Below w.heap.size w w' := by
  have g0 := Lib.hid h0
  obtain ⟨Ap0_0, np0_0, cp0_0, Ap0_1, np0_1, cp0_1, rfl⟩ := shp_door h0
  clear h0
  by_cases e0 : (1048576 : Int) < (doorSz d0 : Nat)
  · skip
    have HL0 := Lib.hid (lft_no e0)
    go_enter Try.func4, Try.ntmps4
    go_wp2_with fail
    generalize hW : w.alloc (.cells #[.int .i64 d0.handle, .int .i64 d0.label.base, .slice Ap0_0 np0_0 cp0_0, .slice Ap0_1 np0_1 cp0_1] 43) = x0
    obtain ⟨nb0, hsz, hb⟩ := laid1 (ps := [.int .i64 d0.handle, .int .i64 d0.label.base, .slice Ap0_0 np0_0 cp0_0, .slice Ap0_1 np0_1 cp0_1]) hW
    have bel' : Below w.heap.size w x0 := hb
    clear hb
    have bel := bel'
    clear bel'
    have P0 := Lib.hid nb0
    clear hW hsz nb0
    refine (szD_door (left := 1048576) (g0.out.below bel) (by omega) (by omega)).mono ?_
    rintro e y1 ⟨rfl, hb⟩
    have P0' := Lib.hid (P0.out.below hb)
    clear P0
    have P0 := P0'
    clear P0'
    have bel' : Below w.heap.size w y1 := below_more bel hb
    clear bel hb
    have bel := bel'
    clear bel'
    rw [HL0.out]
    go_wp2
    go_ret
    exact ⟨rfl, bel⟩
  have F0 : doorSz d0 ≤ 1048576 := by omega
  have HL0 := Lib.hid (lft_yes (show ((doorSz d0 : Nat) : Int) ≤ 1048576 by omega))
  have u0 : ¬ ((1048576 - (doorSz d0 : Nat) : Int) < 0) := by omega
  go_enter Try.func4, Try.ntmps4
  go_wp2_with fail
  generalize hW : w.alloc (.cells #[.int .i64 d0.handle, .int .i64 d0.label.base, .slice Ap0_0 np0_0 cp0_0, .slice Ap0_1 np0_1 cp0_1] 43) = x0
  obtain ⟨nb0, hsz, hb⟩ := laid1 (ps := [.int .i64 d0.handle, .int .i64 d0.label.base, .slice Ap0_0 np0_0 cp0_0, .slice Ap0_1 np0_1 cp0_1]) hW
  have bel' : Below w.heap.size w x0 := hb
  clear hb
  have bel := bel'
  clear bel'
  have P0 := Lib.hid nb0
  clear hW hsz nb0
  refine (szD_door (left := 1048576) (g0.out.below bel) (by omega) (by omega)).mono ?_
  rintro e y1 ⟨rfl, hb⟩
  have P0' := Lib.hid (P0.out.below hb)
  clear P0
  have P0 := P0'
  clear P0'
  have bel' : Below w.heap.size w y1 := below_more bel hb
  clear bel hb
  have bel := bel'
  clear bel'
  rw [HL0.out]
  have P0k0 := P0.out.cell 0 rfl
  have P0k1 := P0.out.cell 1 rfl
  have P0k2 := P0.out.cell 2 rfl
  have P0k3 := P0.out.cell 3 rfl
  have P0kz := P0.out.lt
  go_wp2_with fail
  refine (toD_door (g0.out.below bel) F0).mono ?_
  rintro e y2 ⟨uv, rfl, own, hb⟩
  clear P0k0 P0k1 P0k2 P0k3 P0kz
  have P0' := Lib.hid (P0.out.below hb)
  clear P0
  have P0 := P0'
  clear P0'
  have bel' : Below w.heap.size w y2 := below_more bel hb
  clear bel hb
  have bel := bel'
  clear bel'
  have R0 := Lib.hid own.rd
  obtain ⟨Ar0_0, nr0_0, cr0_0, Ar0_1, nr0_1, cr0_1, rfl⟩ := shp_door own.rd
  clear own
  go_wp2_with fail
  refine (specD_doorok R0.out F0).mono ?_
  rintro e y3 ⟨rfl, hb⟩
  have P0' := Lib.hid (P0.out.below hb)
  clear P0
  have P0 := P0'
  clear P0'
  have R0' := Lib.hid (R0.out.below hb)
  clear R0
  have R0 := R0'
  clear R0'
  have bel' : Below w.heap.size w y3 := below_more bel hb
  clear bel hb
  have bel := bel'
  clear bel'
  clear R0
  have P0k0 := P0.out.cell 0 rfl
  have P0k1 := P0.out.cell 1 rfl
  have P0k2 := P0.out.cell 2 rfl
  have P0k3 := P0.out.cell 3 rfl
  have P0kz := P0.out.lt
  go_wp2_with fail
  refine (toD_door (by first | exact (g0.out.below bel) | exact g0.out.below (bel.alloc bel.size _)) F0).mono ?_
  rintro e y4 ⟨uv, rfl, own, hb⟩
  clear P0k0 P0k1 P0k2 P0k3 P0kz
  have P0' := Lib.hid (P0.out.below hb)
  clear P0
  have P0 := P0'
  clear P0'
  have bel' : Below w.heap.size w y4 := below_more bel hb
  clear bel hb
  have bel := bel'
  clear bel'
  have X0 := Lib.hid own.rd
  obtain ⟨Ax0_0, nx0_0, cx0_0, Ax0_1, nx0_1, cx0_1, rfl⟩ := shp_door own.rd
  clear own
  go_wp2_with fail
  generalize hW : y4.alloc (.cells #[.int .i64 d0.handle, .int .i64 d0.label.base, .slice Ax0_0 nx0_0 cx0_0, .slice Ax0_1 nx0_1 cx0_1] 48) = x5
  obtain ⟨nb0, hsz, hb⟩ := laid1 (ps := [.int .i64 d0.handle, .int .i64 d0.label.base, .slice Ax0_0 nx0_0 cx0_0, .slice Ax0_1 nx0_1 cx0_1]) hW
  have P0' := Lib.hid (P0.out.below hb)
  clear P0
  have P0 := P0'
  clear P0'
  have X0' := Lib.hid (X0.out.below hb)
  clear X0
  have X0 := X0'
  clear X0'
  have bel' : Below w.heap.size w x5 := below_more bel hb
  clear bel hb
  have bel := bel'
  clear bel'
  have Q0 := Lib.hid nb0
  clear hW hsz nb0
  refine (implD_doorok X0.out F0 q0).mono ?_
  rintro e y6 ⟨rfl, hb⟩
  have P0' := Lib.hid (P0.out.below hb)
  clear P0
  have P0 := P0'
  clear P0'
  have Q0' := Lib.hid (Q0.out.below hb)
  clear Q0
  have Q0 := Q0'
  clear Q0'
  have X0' := Lib.hid (X0.out.below hb)
  clear X0
  have X0 := X0'
  clear X0'
  have bel' : Below w.heap.size w y6 := below_more bel hb
  clear bel hb
  have bel := bel'
  clear bel'
  have P0k0 := P0.out.cell 0 rfl
  have P0k1 := P0.out.cell 1 rfl
  have P0k2 := P0.out.cell 2 rfl
  have P0k3 := P0.out.cell 3 rfl
  have P0kz := P0.out.lt
  have Q0k0 := Q0.out.cell 0 rfl
  have Q0k1 := Q0.out.cell 1 rfl
  have Q0k2 := Q0.out.cell 2 rfl
  have Q0k3 := Q0.out.cell 3 rfl
  have Q0kz := Q0.out.lt
  have HC := Lib.hid (Below.refl y6.heap.size y6)
  go_wp2
  go_region_held3 (fun w' => w'.cell? ⟨w.heap.size, 0, none⟩ = some (.int .i64 d0.handle) ∧ w'.cell? ⟨w.heap.size, 1, none⟩ = some (.int .i64 d0.label.base) ∧ w'.cell? ⟨w.heap.size, 2, none⟩ = some (.slice Ap0_0 np0_0 cp0_0) ∧ w'.cell? ⟨w.heap.size, 3, none⟩ = some (.slice Ap0_1 np0_1 cp0_1) ∧ w'.cell? ⟨y4.heap.size, 0, none⟩ = some (.int .i64 d0.handle) ∧ w'.cell? ⟨y4.heap.size, 1, none⟩ = some (.int .i64 d0.label.base) ∧ w'.cell? ⟨y4.heap.size, 2, none⟩ = some (.slice Ax0_0 nx0_0 cx0_0) ∧ w'.cell? ⟨y4.heap.size, 3, none⟩ = some (.slice Ax0_1 nx0_1 cx0_1))
    (first | exact ⟨ff0, ff1, ff2, ff3, ff4, ff5, ff6, ff7⟩ | go_keep)
    (first
    | (go_at_call 14
       refine (toD_door (by first | exact g0.out.below (below_more bel HC.out) | exact (g0.out.below (below_more bel HC.out)).below (Below.refl _ _).drew) F0).mono ?_
       rintro e wn ⟨uv, rfl, own, hb⟩
       have HC' : Hid (Below y6.heap.size y6 wn) := Lib.hid (by first | exact below_more HC.out hb | exact below_more HC.out (below_undrew hb))
       clear HC
       have HC := HC'
       clear HC'
       try clear ff0 ff1 ff2 ff3 ff4 ff5 ff6 ff7
       have ff0 : wn.cell? ⟨w.heap.size, 0, none⟩ = some (.int .i64 d0.handle) := (P0.out.below HC.out).cell 0 rfl
       have ff1 : wn.cell? ⟨w.heap.size, 1, none⟩ = some (.int .i64 d0.label.base) := (P0.out.below HC.out).cell 1 rfl
       have ff2 : wn.cell? ⟨w.heap.size, 2, none⟩ = some (.slice Ap0_0 np0_0 cp0_0) := (P0.out.below HC.out).cell 2 rfl
       have ff3 : wn.cell? ⟨w.heap.size, 3, none⟩ = some (.slice Ap0_1 np0_1 cp0_1) := (P0.out.below HC.out).cell 3 rfl
       have ff4 : wn.cell? ⟨y4.heap.size, 0, none⟩ = some (.int .i64 d0.handle) := (Q0.out.below HC.out).cell 0 rfl
       have ff5 : wn.cell? ⟨y4.heap.size, 1, none⟩ = some (.int .i64 d0.label.base) := (Q0.out.below HC.out).cell 1 rfl
       have ff6 : wn.cell? ⟨y4.heap.size, 2, none⟩ = some (.slice Ax0_0 nx0_0 cx0_0) := (Q0.out.below HC.out).cell 2 rfl
       have ff7 : wn.cell? ⟨y4.heap.size, 3, none⟩ = some (.slice Ax0_1 nx0_1 cx0_1) := (Q0.out.below HC.out).cell 3 rfl
       have R9 := Lib.hid own.rd
       obtain ⟨As0_0, ns0_0, cs0_0, As0_1, ns0_1, cs0_1, rfl⟩ := shp_door own.rd
       clear own
       clear hb)
    | (go_at_call 16
       refine (eqD_door (by first | exact X0.out.below HC.out | exact (X0.out.below HC.out).below (Below.refl _ _).drew) (by first | exact R9.out | exact R9.out.below (Below.refl _ _).drew) F0).mono ?_
       rintro e wn ⟨rfl, hb⟩
       have HC' : Hid (Below y6.heap.size y6 wn) := Lib.hid (by first | exact below_more HC.out hb | exact below_more HC.out (below_undrew hb))
       clear HC
       have HC := HC'
       clear HC'
       try clear ff0 ff1 ff2 ff3 ff4 ff5 ff6 ff7
       have ff0 : wn.cell? ⟨w.heap.size, 0, none⟩ = some (.int .i64 d0.handle) := (P0.out.below HC.out).cell 0 rfl
       have ff1 : wn.cell? ⟨w.heap.size, 1, none⟩ = some (.int .i64 d0.label.base) := (P0.out.below HC.out).cell 1 rfl
       have ff2 : wn.cell? ⟨w.heap.size, 2, none⟩ = some (.slice Ap0_0 np0_0 cp0_0) := (P0.out.below HC.out).cell 2 rfl
       have ff3 : wn.cell? ⟨w.heap.size, 3, none⟩ = some (.slice Ap0_1 np0_1 cp0_1) := (P0.out.below HC.out).cell 3 rfl
       have ff4 : wn.cell? ⟨y4.heap.size, 0, none⟩ = some (.int .i64 d0.handle) := (Q0.out.below HC.out).cell 0 rfl
       have ff5 : wn.cell? ⟨y4.heap.size, 1, none⟩ = some (.int .i64 d0.label.base) := (Q0.out.below HC.out).cell 1 rfl
       have ff6 : wn.cell? ⟨y4.heap.size, 2, none⟩ = some (.slice Ax0_0 nx0_0 cx0_0) := (Q0.out.below HC.out).cell 2 rfl
       have ff7 : wn.cell? ⟨y4.heap.size, 3, none⟩ = some (.slice Ax0_1 nx0_1 cx0_1) := (Q0.out.below HC.out).cell 3 rfl
       skip
       clear hb))
  obtain ⟨y7, hwn⟩ : ∃ y7, y7 = wn := ⟨_, rfl⟩
  rw [← hwn] at HC ⊢
  have hb := HC.out
  clear HC hwn ff0 ff1 ff2 ff3 ff4 ff5 ff6 ff7
  clear P0k0 P0k1 P0k2 P0k3 P0kz Q0k0 Q0k1 Q0k2 Q0k3 Q0kz
  have P0' := Lib.hid (P0.out.below hb)
  clear P0
  have P0 := P0'
  clear P0'
  have Q0' := Lib.hid (Q0.out.below hb)
  clear Q0
  have Q0 := Q0'
  clear Q0'
  have X0' := Lib.hid (X0.out.below hb)
  clear X0
  have X0 := X0'
  clear X0'
  have bel' : Below w.heap.size w y7 := below_more bel hb
  clear bel hb
  have bel := bel'
  clear bel'
  clear R9
  go_wp2
  go_ret
  exact ⟨rfl, bel⟩

set_option maxRecDepth 100000 in
theorem lifted (os : Os) (started : os.Started) (H : Type) (enc : TypeId × Value → H) :
    ReturnsInHanded {} Try.checked os 4 .any (Rows.fnExactDoorOkSpec.pre6 enc Try.prog Try.f4 Rows.fnExactDoorOkRow.domain false) (Rows.fnExactDoorOkSpec.post enc Try.prog Try.f4 false true false false) := by
  refine returnsInHanded_of_change (C := Try.checked) own started (by kernel_rfl) Try.func4
    (ChangeSpec.witness6 (enc := enc) (C := Try.checked) false ⟨#[], #[.agg #[.int .i64 0, .int .i64 0, .slice none 0 0, .slice none 0 0]], []⟩ 8 (by kernel_rfl) (by kernel_rfl) (by kernel_rfl) (by kernel_rfl)) ?_
  intro W base args ds gs before hval0 hW hcnd _
  have hval : ∀ (j : Nat) t v, Try.f4.params[j]? = some t → args[j]? = some v → Value.okWide Try.prog W .any base t v := hval0
  have hW' := hW
  obtain ⟨p, q, hA0, hV, rfl, hfz, hnd⟩ := hW
  have hA : DataW.TrodAll enc Try.prog W 0 (fun _ => true) true Try.f4.params.toList args.toList ds p := hA0
  rw [Try.params4] at hA hval
  obtain ⟨v0, vs0, d0, ds0, p0, q0, hargs, rfl, rfl, h0, r0⟩ := trodAll_cons hA
  obtain ⟨rfl, rfl, rfl⟩ := trodAll_nil r0
  obtain rfl : args = #[v0] := by cases args; simp_all
  obtain ⟨rfl, rfl⟩ := trodVars_none hV
  have k0 := h0
  have lt0 : ∀ x ∈ p0, x.block < W.heap.size := by obtain ⟨m, hm⟩ := k0; exact DataW.trod_lt m _ _ _ hm
  obtain ⟨us0, x0, rfl, hx0, hq0⟩ := openD_door (hval 0 43 v0 rfl rfl) h0
  clear hA0 hval0
  refine (walk hx0 hq0 (w := W)).mono fun e W' ⟨he, bel⟩ => ?_
  subst he
  exact ⟨_, rfl, _, _, _, [], _, [], hW', (trodAll_cons_mk (shut_bool Try.underlying4 _) trodAll_mk0), (trodAll_cons_mk (Below.trod laidOut (by kernel_rfl) (of_decide_eq_true (by kernel_rfl)) k0 bel lt0) trodAll_mk0), rfl, bel.frame _, fun h => by cases h⟩

theorem said : Rows.FnExactDoorOkSaid :=
  OpenClaim.holds_of_wide 4 Try.f4 rfl rfl rfl rfl rfl rfl rfl ⟨rfl, rfl, rfl, rfl, rfl⟩ rfl rfl rfl rfl rfl (by kernel_rfl) Try.func4 (by kernel_rfl)
    (of_decide_eq_true (by kernel_rfl)) (by unfold Func.isWrapper; first | (rw [if_pos (by decide +kernel)]; kernel_rfl) | (rw [if_neg (by decide +kernel)]; exact ⟨rfl, rfl⟩))
    (fun os started H enc _ => lifted os started H enc)

theorem proved : Rows.FnExactDoorOkSaid := said
#print axioms proved
end Go.Proofs.Ytnpeojlhjbdjiaa.fnExactDoorOk
