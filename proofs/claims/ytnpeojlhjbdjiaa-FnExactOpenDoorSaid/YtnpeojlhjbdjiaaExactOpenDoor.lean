/-
  FnExactOpenDoor: whatever the input, the law returns true and its arguments read as they did; no condition.
-/
import Derived.Test.YtnpeojlhjbdjiaaBase
import Derived.Test.YtnpeojlhjbdjiaaRows
import Derived.Test.YtnpeojlhjbdjiaaDODoor
import Derived.Test.YtnpeojlhjbdjiaaImplDoor
namespace Go.Proofs.Ytnpeojlhjbdjiaa.fnExactOpenDoor
set_option maxRecDepth 100000
open Go.ChangeShapes Go.WideShapes Go.ChangeAt Go.RowKit
open Go.ChangeMaps (open_string shut_string)
set_option linter.unusedVariables false

set_option maxHeartbeats 16000000 in
theorem walk {w : World} (a0 : Int) (iw0 : (Lit.int .i64 a0).wf = true) :
    Calls Try.prog 5 #[.int .i64 a0] w fun e w' => e = .returned (.bool true) ∧ Below w.heap.size w w' := by
  have FR : doorSz (openD a0) ≤ 1048576 := openD_size a0
  have CB : cntt (dtDoor (openD a0)) ≤ 41943040 := by have := cntt_le_door ((openD a0)); omega
  go_enter Try.func5, Try.ntmps5
  have bel : Below w.heap.size w w := .refl _ _
  go_wp2_with fail
  refine (specD_opendoor a0 _).mono ?_
  rintro e y0 ⟨uv, rfl, own, hb⟩
  have hz0 := Lib.hid hb.size
  have bel' : Below w.heap.size w y0 := hb
  clear hb
  have bel := bel'
  clear bel'
  obtain ⟨Arw_0, nrw_0, crw_0, Arw_1, nrw_1, crw_1, rfl⟩ := shp_door own.rd
  have RW := Lib.hid own.rd
  clear own
  have BW := Lib.hid (Anch.new y0)
  go_wp2_with fail
  generalize hW : y0.alloc (.cells #[.int .i64 (openD a0).handle, .int .i64 (openD a0).label.base, .slice Arw_0 nrw_0 crw_0, .slice Arw_1 nrw_1 crw_1] 48) = x1
  obtain ⟨nb0, hsz, hb⟩ := laid1 (ps := [.int .i64 (openD a0).handle, .int .i64 (openD a0).label.base, .slice Arw_0 nrw_0 crw_0, .slice Arw_1 nrw_1 crw_1]) hW
  have hz1 := Lib.hid (And.intro (Nat.le_of_eq hsz) (Nat.le_of_eq hsz.symm))
  have BW' := Lib.hid (BW.out.below hb)
  clear BW
  have BW := BW'
  clear BW'
  have bel' : Below w.heap.size w x1 := below_more bel hb
  clear bel hb
  have bel := bel'
  clear bel'
  have WB := Lib.hid nb0
  clear hW hsz nb0
  refine (implD_opendoor a0 iw0 _).mono ?_
  rintro e y2 ⟨uv, rfl, own, hb⟩
  have hz2 := Lib.hid hb.size
  have WB' := Lib.hid (WB.out.below hb)
  clear WB
  have WB := WB'
  clear WB'
  have BW' := Lib.hid (BW.out.below hb)
  clear BW
  have BW := BW'
  clear BW'
  have bel' : Below w.heap.size w y2 := below_more bel hb
  clear bel hb
  have bel := bel'
  clear bel'
  obtain ⟨Ag_0, ng_0, cg_0, Ag_1, ng_1, cg_1, rfl⟩ := shp_door own.rd
  have OG : Hid (OwnR x1.heap.size y2.heap.size y2 (dtDoor (openD a0)) [.int .i64 (openD a0).handle, .int .i64 (openD a0).label.base, .slice Ag_0 ng_0 cg_0, .slice Ag_1 ng_1 cg_1]) := Lib.hid own.r
  clear own
  have WBk0 := WB.out.cell 0 rfl
  have WBk1 := WB.out.cell 1 rfl
  have WBk2 := WB.out.cell 2 rfl
  have WBk3 := WB.out.cell 3 rfl
  have WBkz := WB.out.lt
  go_wp2_with fail
  generalize hW : y2.alloc (.cells #[.int .i64 (openD a0).handle, .int .i64 (openD a0).label.base, .slice Ag_0 ng_0 cg_0, .slice Ag_1 ng_1 cg_1] 48) = x3
  obtain ⟨nb0, hsz, hb⟩ := laid1 (ps := [.int .i64 (openD a0).handle, .int .i64 (openD a0).label.base, .slice Ag_0 ng_0 cg_0, .slice Ag_1 ng_1 cg_1]) hW
  have hz3 := Lib.hid (And.intro (Nat.le_of_eq hsz) (Nat.le_of_eq hsz.symm))
  have WB' := Lib.hid (WB.out.below hb)
  clear WB
  have WB := WB'
  clear WB'
  have BW' := Lib.hid (BW.out.below hb)
  clear BW
  have BW := BW'
  clear BW'
  have OG' := Lib.hid (OG.out.below hb)
  clear OG
  have OG := OG'
  clear OG'
  have bel' : Below w.heap.size w x3 := below_more bel hb
  clear bel hb
  have bel := bel'
  clear bel'
  have GB := Lib.hid nb0
  clear hW hsz nb0
  refine (eqD_door OG.out.rd (RW.out.below BW.out.h) FR).mono ?_
  rintro e y4 ⟨rfl, hb⟩
  clear WBk0 WBk1 WBk2 WBk3 WBkz
  have hz4 := Lib.hid hb.size
  have WB' := Lib.hid (WB.out.below hb)
  clear WB
  have WB := WB'
  clear WB'
  have GB' := Lib.hid (GB.out.below hb)
  clear GB
  have GB := GB'
  clear GB'
  have BW' := Lib.hid (BW.out.below hb)
  clear BW
  have BW := BW'
  clear BW'
  have OG' := Lib.hid (OG.out.below hb)
  clear OG
  have OG := OG'
  clear OG'
  have bel' : Below w.heap.size w y4 := below_more bel hb
  clear bel hb
  have bel := bel'
  clear bel'
  have GBk0 := GB.out.cell 0 rfl
  have GBk1 := GB.out.cell 1 rfl
  have GBk2 := GB.out.cell 2 rfl
  have GBk3 := GB.out.cell 3 rfl
  have GBkz := GB.out.lt
  go_wp2_with fail
  obtain ⟨bs, ows, nd, rng⟩ := OG.out
  refine (mkD_door ows nd FR (by omega) (by omega)).mono ?_
  rintro e y5 ⟨rfl, hw, hc⟩
  clear GBk0 GBk1 GBk2 GBk3 GBkz
  have WB' := Lib.hid (hc.box WB.out (fun hm => by have := rng _ hm; have := hz0.out; have := hz1.out; have := hz2.out; have := hz3.out; have := hz4.out; omega))
  clear WB
  have WB := WB'
  clear WB'
  have GB' := Lib.hid (hc.box GB.out (fun hm => by have := rng _ hm; have := hz0.out; have := hz1.out; have := hz2.out; have := hz3.out; have := hz4.out; omega))
  clear GB
  have GB := GB'
  clear GB'
  have BW' := Lib.hid (BW.out.chg hc (by have := hz0.out; have := hz1.out; have := hz2.out; have := hz3.out; have := hz4.out; omega) (fun b hm => by have := rng b hm; have := hz0.out; have := hz1.out; have := hz2.out; have := hz3.out; have := hz4.out; omega))
  clear BW
  have BW := BW'
  clear BW'
  have bel' : Below w.heap.size w y5 := hc.below bel (by have := hz0.out; have := hz1.out; have := hz2.out; have := hz3.out; have := hz4.out; omega) (fun b hm => by have := rng b hm; have := hz0.out; have := hz1.out; have := hz2.out; have := hz3.out; have := hz4.out; omega)
  clear bel
  have bel := bel'
  clear bel'
  have hz5 := Lib.hid hc.size
  clear OG
  have OM : Hid (OwnR (x1.heap.size) (y2.heap.size) _ (mkt 1 (dtDoor (openD a0))) [.int .i64 (openD a0).handle, .int .i64 (openD a0).label.base, .slice Ag_0 ng_0 cg_0, .slice Ag_1 ng_1 cg_1]) := Lib.hid ⟨bs, hw, nd, rng⟩
  clear ows nd rng hw
  clear hc
  have zq : ¬ (1 + (cntt (dtDoor (openD a0)) : Nat) : Int) < 0 := by omega
  have GBk0 := GB.out.cell 0 rfl
  have GBk1 := GB.out.cell 1 rfl
  have GBk2 := GB.out.cell 2 rfl
  have GBk3 := GB.out.cell 3 rfl
  have GBkz := GB.out.lt
  go_wp2_with fail
  refine (hdD_door OM.out.rd FR (by omega) (by omega)).mono ?_
  rintro e y6 ⟨rfl, hb⟩
  clear GBk0 GBk1 GBk2 GBk3 GBkz
  have hz6 := Lib.hid hb.size
  have WB' := Lib.hid (WB.out.below hb)
  clear WB
  have WB := WB'
  clear WB'
  have GB' := Lib.hid (GB.out.below hb)
  clear GB
  have GB := GB'
  clear GB'
  have BW' := Lib.hid (BW.out.below hb)
  clear BW
  have BW := BW'
  clear BW'
  have OM' := Lib.hid (OM.out.below hb)
  clear OM
  have OM := OM'
  clear OM'
  have bel' : Below w.heap.size w y6 := below_more bel hb
  clear bel hb
  have bel := bel'
  clear bel'
  go_wp2_with fail
  refine (implD_opendoor a0 iw0 _).mono ?_
  rintro e y7 ⟨uv, rfl, own, hb⟩
  have hz7 := Lib.hid hb.size
  have WB' := Lib.hid (WB.out.below hb)
  clear WB
  have WB := WB'
  clear WB'
  have GB' := Lib.hid (GB.out.below hb)
  clear GB
  have GB := GB'
  clear GB'
  have BW' := Lib.hid (BW.out.below hb)
  clear BW
  have BW := BW'
  clear BW'
  have OM' := Lib.hid (OM.out.below hb)
  clear OM
  have OM := OM'
  clear OM'
  have bel' : Below w.heap.size w y7 := below_more bel hb
  clear bel hb
  have bel := bel'
  clear bel'
  obtain ⟨Ah_0, nh_0, ch_0, Ah_1, nh_1, ch_1, rfl⟩ := shp_door own.rd
  have RH := Lib.hid own.rd
  clear own
  have WBk0 := WB.out.cell 0 rfl
  have WBk1 := WB.out.cell 1 rfl
  have WBk2 := WB.out.cell 2 rfl
  have WBk3 := WB.out.cell 3 rfl
  have WBkz := WB.out.lt
  go_wp2_with fail
  generalize hW : y7.alloc (.cells #[.int .i64 (openD a0).handle, .int .i64 (openD a0).label.base, .slice Ah_0 nh_0 ch_0, .slice Ah_1 nh_1 ch_1] 48) = x8
  obtain ⟨nb0, hsz, hb⟩ := laid1 (ps := [.int .i64 (openD a0).handle, .int .i64 (openD a0).label.base, .slice Ah_0 nh_0 ch_0, .slice Ah_1 nh_1 ch_1]) hW
  have hz8 := Lib.hid (And.intro (Nat.le_of_eq hsz) (Nat.le_of_eq hsz.symm))
  have WB' := Lib.hid (WB.out.below hb)
  clear WB
  have WB := WB'
  clear WB'
  have GB' := Lib.hid (GB.out.below hb)
  clear GB
  have GB := GB'
  clear GB'
  have BW' := Lib.hid (BW.out.below hb)
  clear BW
  have BW := BW'
  clear BW'
  have OM' := Lib.hid (OM.out.below hb)
  clear OM
  have OM := OM'
  clear OM'
  have RH' := Lib.hid (RH.out.below hb)
  clear RH
  have RH := RH'
  clear RH'
  have bel' : Below w.heap.size w x8 := below_more bel hb
  clear bel hb
  have bel := bel'
  clear bel'
  have HB := Lib.hid nb0
  clear hW hsz nb0
  refine (eqD_door RH.out (RW.out.below BW.out.h) FR).mono ?_
  rintro e y9 ⟨rfl, hb⟩
  clear WBk0 WBk1 WBk2 WBk3 WBkz
  have hz9 := Lib.hid hb.size
  have WB' := Lib.hid (WB.out.below hb)
  clear WB
  have WB := WB'
  clear WB'
  have GB' := Lib.hid (GB.out.below hb)
  clear GB
  have GB := GB'
  clear GB'
  have HB' := Lib.hid (HB.out.below hb)
  clear HB
  have HB := HB'
  clear HB'
  have BW' := Lib.hid (BW.out.below hb)
  clear BW
  have BW := BW'
  clear BW'
  have OM' := Lib.hid (OM.out.below hb)
  clear OM
  have OM := OM'
  clear OM'
  have RH' := Lib.hid (RH.out.below hb)
  clear RH
  have RH := RH'
  clear RH'
  have bel' : Below w.heap.size w y9 := below_more bel hb
  clear bel hb
  have bel := bel'
  clear bel'
  have GBk0 := GB.out.cell 0 rfl
  have GBk1 := GB.out.cell 1 rfl
  have GBk2 := GB.out.cell 2 rfl
  have GBk3 := GB.out.cell 3 rfl
  have GBkz := GB.out.lt
  go_wp2_with fail
  refine (hdD_door OM.out.rd FR (by omega) (by omega)).mono ?_
  rintro e y10 ⟨rfl, hb⟩
  clear GBk0 GBk1 GBk2 GBk3 GBkz
  have hz10 := Lib.hid hb.size
  have WB' := Lib.hid (WB.out.below hb)
  clear WB
  have WB := WB'
  clear WB'
  have GB' := Lib.hid (GB.out.below hb)
  clear GB
  have GB := GB'
  clear GB'
  have HB' := Lib.hid (HB.out.below hb)
  clear HB
  have HB := HB'
  clear HB'
  have BW' := Lib.hid (BW.out.below hb)
  clear BW
  have BW := BW'
  clear BW'
  have OM' := Lib.hid (OM.out.below hb)
  clear OM
  have OM := OM'
  clear OM'
  have RH' := Lib.hid (RH.out.below hb)
  clear RH
  have RH := RH'
  clear RH'
  have bel' : Below w.heap.size w y10 := below_more bel hb
  clear bel hb
  have bel := bel'
  clear bel'
  go_wp2
  go_ret
  exact ⟨rfl, bel⟩

set_option maxRecDepth 100000 in
theorem lifted (os : Os) (started : os.Started) (H : Type) (enc : TypeId × Value → H) :
    ReturnsInHanded {} Try.checked os 5 .any (Rows.fnExactOpenDoorSpec.pre6 enc Try.prog Try.f5 Rows.fnExactOpenDoorRow.domain false) (Rows.fnExactOpenDoorSpec.post enc Try.prog Try.f5 false true false false) := by
  refine returnsInHanded_of_change (C := Try.checked) own started (by kernel_rfl) Try.func5
    (ChangeSpec.witness6 (enc := enc) (C := Try.checked) false ⟨#[], #[.int .i64 0], []⟩ 8 (by kernel_rfl) (by kernel_rfl) (by kernel_rfl) (by kernel_rfl)) ?_
  intro W base args ds gs before hval0 hW hcnd _
  have hval : ∀ (j : Nat) t v, Try.f5.params[j]? = some t → args[j]? = some v → Value.okWide Try.prog W .any base t v := hval0
  have hW' := hW
  obtain ⟨p, q, hA0, hV, rfl, hfz, hnd⟩ := hW
  have hA : DataW.TrodAll enc Try.prog W 0 (fun _ => true) true Try.f5.params.toList args.toList ds p := hA0
  rw [Try.params5] at hA hval
  obtain ⟨v0, vs0, d0, ds0, p0, q0, hargs, rfl, rfl, h0, r0⟩ := trodAll_cons hA
  obtain ⟨rfl, rfl, rfl⟩ := trodAll_nil r0
  obtain rfl : args = #[v0] := by cases args; simp_all
  obtain ⟨rfl, rfl⟩ := trodVars_none hV
  have k0 := h0
  have lt0 : ∀ x ∈ p0, x.block < W.heap.size := by obtain ⟨m, hm⟩ := k0; exact DataW.trod_lt m _ _ _ hm
  obtain ⟨a0, rfl, rfl, rfl, w0⟩ := open_int Try.underlying2 (hval 0 2 v0 rfl rfl) h0
  clear hA0 hval0
  refine (walk a0 w0 (w := W)).mono fun e W' ⟨he, bel⟩ => ?_
  subst he
  exact ⟨_, rfl, _, _, _, [], _, [], hW', (trodAll_cons_mk (shut_bool Try.underlying4 _) trodAll_mk0), (trodAll_cons_mk (Below.trod laidOut (by kernel_rfl) (of_decide_eq_true (by kernel_rfl)) k0 bel lt0) trodAll_mk0), rfl, bel.frame _, fun h => by cases h⟩

theorem said : Rows.FnExactOpenDoorSaid :=
  OpenClaim.holds_of_wide 5 Try.f5 rfl rfl rfl rfl rfl rfl rfl ⟨rfl, rfl, rfl, rfl, rfl⟩ rfl rfl rfl rfl rfl (by kernel_rfl) Try.func5 (by kernel_rfl)
    (of_decide_eq_true (by kernel_rfl)) (by unfold Func.isWrapper; first | (rw [if_pos (by decide +kernel)]; kernel_rfl) | (rw [if_neg (by decide +kernel)]; exact ⟨rfl, rfl⟩))
    (fun os started H enc _ => lifted os started H enc)

theorem proved : Rows.FnExactOpenDoorSaid := said
#print axioms proved
end Go.Proofs.Ytnpeojlhjbdjiaa.fnExactOpenDoor
