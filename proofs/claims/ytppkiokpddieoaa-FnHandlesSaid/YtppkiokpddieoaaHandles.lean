/-
  FnHandles: whatever the input, the law returns true and its arguments read as they did; no condition.
-/
import Derived.Test.YtppkiokpddieoaaBase
import Derived.Test.YtppkiokpddieoaaRows
import Derived.Test.YtppkiokpddieoaaHandle
import Derived.Test.YtppkiokpddieoaaDrawHand
import Derived.Test.YtppkiokpddieoaaImplHandle
namespace Go.Proofs.Ytppkiokpddieoaa.fnHandles
set_option maxRecDepth 100000
open Go.ChangeShapes Go.WideShapes Go.ChangeAt Go.RowKit
open Go.ChangeMaps (open_string shut_string)
set_option linter.unusedVariables false

set_option maxHeartbeats 2000000 in
theorem walk (a : Option Addr) (len cap : Nat) (zs : List Int) {w : World} (w0 : IsRow .u8 w a len cap zs) :
    Calls Try.prog 3 #[.slice a len cap] w fun e w' => e = .returned (.bool true) ∧ Below w.heap.size w w' := by
  by_cases hl : len ≤ 4096
  · go_enter Try.func3, Try.ntmps3
    go_wp2_with fail
    refine (big_no a len cap _ (by omega)).mono ?_
    rintro e w1 ⟨rfl, rfl⟩
    go_wp2_with fail
    refine (draw_handleof a len cap zs _ hl w0).mono ?_
    rintro e w1 ⟨who, n, rfl, hb1⟩
    go_wp2_with fail
    refine (draw_makerof a len cap zs _ hl (w0.below hb1)).mono ?_
    rintro e w2 ⟨h, hw, rfl, hb2⟩
    have hw := Lib.hid hw.wf
    have bel := below_more hb1 hb2
    clear hb1 hb2
    by_cases hx : handleOf who n < 0
    · by_cases hm : makerOf h < 0
      · go_wp2_with (first | (go_at_call 11; refine (spec_handleof _ _ _).mono ?_; rintro e w' ⟨rfl, rfl⟩) | (go_at_call 9; refine (impl_handleof _ _ _).mono ?_; rintro e w' ⟨rfl, hb⟩; have bel := below_more bel hb; clear hb) | (go_at_call 12; refine (spec_makerof _ _).mono ?_; rintro e w' ⟨rfl, rfl⟩) | (go_at_call 10; refine (impl_makerof _ _ (by first | exact wa | exact hw.out | exact handleOf_wf _ _ | assumption)).mono ?_; rintro e w' ⟨rfl, hb⟩; have bel := below_more bel hb; clear hb))
        go_ret
        exact ⟨rfl, bel⟩
      · have h1 : 0 ≤ h := by unfold makerOf at hm; split at hm <;> omega
        have d2 : Int.tmod h 100 = h % 100 := Int.tmod_eq_emod_of_nonneg h1
        have e2 : IntKind.i64.wrap (h % 100) = h % 100 := IntWalk.i64_in _ (by omega)
        have hk := handle_maker hm
        go_wp2_with (first | (go_at_call 11; refine (spec_handleof _ _ _).mono ?_; rintro e w' ⟨rfl, rfl⟩) | (go_at_call 9; refine (impl_handleof _ _ _).mono ?_; rintro e w' ⟨rfl, hb⟩; have bel := below_more bel hb; clear hb) | (go_at_call 12; refine (spec_makerof _ _).mono ?_; rintro e w' ⟨rfl, rfl⟩) | (go_at_call 10; refine (impl_makerof _ _ (by first | exact wa | exact hw.out | exact handleOf_wf _ _ | assumption)).mono ?_; rintro e w' ⟨rfl, hb⟩; have bel := below_more bel hb; clear hb))
        go_ret
        exact ⟨rfl, bel⟩
    · have hj := maker_handle hx
      by_cases hm : makerOf h < 0
      · go_wp2_with (first | (go_at_call 11; refine (spec_handleof _ _ _).mono ?_; rintro e w' ⟨rfl, rfl⟩) | (go_at_call 9; refine (impl_handleof _ _ _).mono ?_; rintro e w' ⟨rfl, hb⟩; have bel := below_more bel hb; clear hb) | (go_at_call 12; refine (spec_makerof _ _).mono ?_; rintro e w' ⟨rfl, rfl⟩) | (go_at_call 10; refine (impl_makerof _ _ (by first | exact wa | exact hw.out | exact handleOf_wf _ _ | assumption)).mono ?_; rintro e w' ⟨rfl, hb⟩; have bel := below_more bel hb; clear hb))
        go_ret
        exact ⟨rfl, bel⟩
      · have h1 : 0 ≤ h := by unfold makerOf at hm; split at hm <;> omega
        have d2 : Int.tmod h 100 = h % 100 := Int.tmod_eq_emod_of_nonneg h1
        have e2 : IntKind.i64.wrap (h % 100) = h % 100 := IntWalk.i64_in _ (by omega)
        have hk := handle_maker hm
        go_wp2_with (first | (go_at_call 11; refine (spec_handleof _ _ _).mono ?_; rintro e w' ⟨rfl, rfl⟩) | (go_at_call 9; refine (impl_handleof _ _ _).mono ?_; rintro e w' ⟨rfl, hb⟩; have bel := below_more bel hb; clear hb) | (go_at_call 12; refine (spec_makerof _ _).mono ?_; rintro e w' ⟨rfl, rfl⟩) | (go_at_call 10; refine (impl_makerof _ _ (by first | exact wa | exact hw.out | exact handleOf_wf _ _ | assumption)).mono ?_; rintro e w' ⟨rfl, hb⟩; have bel := below_more bel hb; clear hb))
        go_ret
        exact ⟨rfl, bel⟩
  · go_enter Try.func3, Try.ntmps3
    go_wp2_with fail
    refine (big_yes a len cap _ (by omega)).mono ?_
    rintro e w1 ⟨rfl, rfl⟩
    go_wp2
    go_ret
    exact ⟨rfl, .refl _ _⟩

set_option maxRecDepth 100000 in
theorem lifted (os : Os) (started : os.Started) (H : Type) (enc : TypeId × Value → H) :
    ReturnsInHanded {} Try.checked os 3 .any (Rows.fnHandlesSpec.pre6 enc Try.prog Try.f3 Rows.fnHandlesRow.domain false) (Rows.fnHandlesSpec.post enc Try.prog Try.f3 false true false false) := by
  refine returnsInHanded_of_change (C := Try.checked) own started (by kernel_rfl) Try.func3
    (ChangeSpec.witness6 (enc := enc) (C := Try.checked) false ⟨#[], #[.slice none 0 0], []⟩ 8 (by kernel_rfl) (by kernel_rfl) (by kernel_rfl) (by kernel_rfl)) ?_
  intro W base args ds gs before hval0 hW hcnd _
  have hval : ∀ (j : Nat) t v, Try.f3.params[j]? = some t → args[j]? = some v → Value.okWide Try.prog W .any base t v := hval0
  have hW' := hW
  obtain ⟨p, q, hA0, hV, rfl, hfz, hnd⟩ := hW
  have hA : DataW.TrodAll enc Try.prog W 0 (fun _ => true) true Try.f3.params.toList args.toList ds p := hA0
  rw [Try.params3] at hA hval
  obtain ⟨v0, vs0, d0, ds0, p0, q0, hargs, rfl, rfl, h0, r0⟩ := trodAll_cons hA
  obtain ⟨rfl, rfl, rfl⟩ := trodAll_nil r0
  obtain rfl : args = #[v0] := by cases args; simp_all
  obtain ⟨rfl, rfl⟩ := trodVars_none hV
  have k0 := h0
  have lt0 : ∀ x ∈ p0, x.block < W.heap.size := by obtain ⟨m, hm⟩ := k0; exact DataW.trod_lt m _ _ _ hm
  obtain ⟨a0, len0, cap0, rfl, z0, w0⟩ := open_bytes (hval 0 22 v0 rfl rfl) h0
  clear hA0 hval0
  refine (walk a0 len0 cap0 z0 w0 (w := W)).mono fun e W' ⟨he, bel⟩ => ?_
  subst he
  exact ⟨_, rfl, _, _, _, [], _, [], hW', (trodAll_cons_mk (shut_bool Try.underlying4 _) trodAll_mk0), (trodAll_cons_mk (Below.trod laidOut (by kernel_rfl) (of_decide_eq_true (by kernel_rfl)) k0 bel lt0) trodAll_mk0), rfl, bel.frame _, fun h => by cases h⟩

theorem said : Rows.FnHandlesSaid :=
  OpenClaim.holds_of_wide 3 Try.f3 rfl rfl rfl rfl rfl rfl rfl ⟨rfl, rfl, rfl, rfl, rfl⟩ rfl rfl rfl rfl rfl (by kernel_rfl) Try.func3 (by kernel_rfl)
    (of_decide_eq_true (by kernel_rfl)) (by unfold Func.isWrapper; first | (rw [if_pos (by decide +kernel)]; kernel_rfl) | (rw [if_neg (by decide +kernel)]; exact ⟨rfl, rfl⟩))
    (fun os started H enc _ => lifted os started H enc)

theorem proved : Rows.FnHandlesSaid := said
#print axioms proved
end Go.Proofs.Ytppkiokpddieoaa.fnHandles
