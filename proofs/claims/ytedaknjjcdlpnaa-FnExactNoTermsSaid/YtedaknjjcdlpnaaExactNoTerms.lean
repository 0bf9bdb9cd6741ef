/-
  FnExactNoTerms: whatever the input, the law returns true and its arguments read as they did; no condition.
-/
import Derived.Test.YtedaknjjcdlpnaaBase
import Derived.Test.YtedaknjjcdlpnaaRows
import Derived.Test.YtedaknjjcdlpnaaTmOpen
import Derived.Test.YtedaknjjcdlpnaaSpecTerms
import Derived.Test.YtedaknjjcdlpnaaImplTerms0
namespace Go.Proofs.Ytedaknjjcdlpnaa.fnExactNoTerms
set_option maxRecDepth 100000
open Go.ChangeShapes Go.WideShapes Go.ChangeAt Go.RowKit
open Go.ChangeMaps (open_string shut_string)
set_option linter.unusedVariables false

set_option maxHeartbeats 8000000 in
theorem walk {w : World} :
    Calls Try.prog 4 #[] w fun e w' => e = .returned (.bool true) ∧ Below w.heap.size w w' := by
  have hlen : tmLen noTm ≤ 1048576 := (by decide)
  have heq := tmEq_rfl (noTm)
  go_enter Try.func4, Try.ntmps4
  go_wp2_with fail
  refine (spec_noterms _).mono ?_
  rintro e y0 ⟨vv, rfl, own, hb⟩
  have szy0 : w.heap.size ≤ y0.heap.size := hb.size
  have bel' : Below w.heap.size w y0 := hb
  clear hb
  have bel := bel'
  clear bel'
  have W0 := Lib.hid own
  have fpk := own.fp
  obtain ⟨Aw_0, nw_0, cw_0, Aw_1, nw_1, cw_1, Aw_2, nw_2, cw_2, Aw_3, nw_3, cw_3, rfl, -, -, -, -, -⟩ := own
  have W0r : Hid (∀ k ∈ fpOf [.int .i64 noTm.taint.base, .slice Aw_0 nw_0 cw_0, .int .i64 noTm.clear.base, .slice Aw_1 nw_1 cw_1, .int .i64 noTm.raise.base, .slice Aw_2 nw_2 cw_2, .int .i64 noTm.verify.base, .slice Aw_3 nw_3 cw_3], w.heap.size ≤ k ∧ k < y0.heap.size) := Lib.hid fpk
  clear fpk
  go_wp2_with fail
  generalize hW : y0.alloc (.cells #[.int .i64 noTm.taint.base, .slice Aw_0 nw_0 cw_0, .int .i64 noTm.clear.base, .slice Aw_1 nw_1 cw_1, .int .i64 noTm.raise.base, .slice Aw_2 nw_2 cw_2, .int .i64 noTm.verify.base, .slice Aw_3 nw_3 cw_3] 33) = x1
  obtain ⟨nb0, hsz, hb⟩ := laid1 (ps := [.int .i64 noTm.taint.base, .slice Aw_0 nw_0 cw_0, .int .i64 noTm.clear.base, .slice Aw_1 nw_1 cw_1, .int .i64 noTm.raise.base, .slice Aw_2 nw_2 cw_2, .int .i64 noTm.verify.base, .slice Aw_3 nw_3 cw_3]) hW
  have W0' := Lib.hid (W0.out.below hb)
  clear W0
  have W0 := W0'
  clear W0'
  have bel' : Below w.heap.size w x1 := below_more bel hb
  clear bel hb
  have bel := bel'
  clear bel'
  have BW0 := Lib.hid nb0
  have szx1 := hsz
  clear hW hsz nb0
  refine (impl_noterms _).mono ?_
  rintro e y2 ⟨vv, rfl, own, hb⟩
  have szy2 : x1.heap.size ≤ y2.heap.size := hb.size
  have BW0' := Lib.hid (BW0.out.below hb)
  clear BW0
  have BW0 := BW0'
  clear BW0'
  have W0' := Lib.hid (W0.out.below hb)
  clear W0
  have W0 := W0'
  clear W0'
  have bel' : Below w.heap.size w y2 := below_more bel hb
  clear bel hb
  have bel := bel'
  clear bel'
  have G0 := Lib.hid own
  have fpk := own.fp
  obtain ⟨Ag_0, ng_0, cg_0, Ag_1, ng_1, cg_1, Ag_2, ng_2, cg_2, Ag_3, ng_3, cg_3, rfl, -, -, -, -, -⟩ := own
  have G0r : Hid (∀ k ∈ fpOf [.int .i64 noTm.taint.base, .slice Ag_0 ng_0 cg_0, .int .i64 noTm.clear.base, .slice Ag_1 ng_1 cg_1, .int .i64 noTm.raise.base, .slice Ag_2 ng_2 cg_2, .int .i64 noTm.verify.base, .slice Ag_3 ng_3 cg_3], x1.heap.size ≤ k ∧ k < y2.heap.size) := Lib.hid fpk
  clear fpk
  have BW0k0 := BW0.out.cell 0 rfl
  have BW0k1 := BW0.out.cell 1 rfl
  have BW0k2 := BW0.out.cell 2 rfl
  have BW0k3 := BW0.out.cell 3 rfl
  have BW0k4 := BW0.out.cell 4 rfl
  have BW0k5 := BW0.out.cell 5 rfl
  have BW0k6 := BW0.out.cell 6 rfl
  have BW0k7 := BW0.out.cell 7 rfl
  have BW0kz := BW0.out.lt
  go_wp2_with fail
  generalize hW : y2.alloc (.cells #[.int .i64 noTm.taint.base, .slice Ag_0 ng_0 cg_0, .int .i64 noTm.clear.base, .slice Ag_1 ng_1 cg_1, .int .i64 noTm.raise.base, .slice Ag_2 ng_2 cg_2, .int .i64 noTm.verify.base, .slice Ag_3 ng_3 cg_3] 33) = x3
  obtain ⟨nb0, hsz, hb⟩ := laid1 (ps := [.int .i64 noTm.taint.base, .slice Ag_0 ng_0 cg_0, .int .i64 noTm.clear.base, .slice Ag_1 ng_1 cg_1, .int .i64 noTm.raise.base, .slice Ag_2 ng_2 cg_2, .int .i64 noTm.verify.base, .slice Ag_3 ng_3 cg_3]) hW
  have BW0' := Lib.hid (BW0.out.below hb)
  clear BW0
  have BW0 := BW0'
  clear BW0'
  have W0' := Lib.hid (W0.out.below hb)
  clear W0
  have W0 := W0'
  clear W0'
  have G0' := Lib.hid (G0.out.below hb)
  clear G0
  have G0 := G0'
  clear G0'
  have bel' : Below w.heap.size w x3 := below_more bel hb
  clear bel hb
  have bel := bel'
  clear bel'
  have BG0 := Lib.hid nb0
  have szx3 := hsz
  clear hW hsz nb0
  refine (eq_tm _ _ (noTm) (noTm) _ G0.out.rd W0.out.rd).mono ?_
  rintro e y4 ⟨rfl, hb⟩
  clear BW0k0 BW0k1 BW0k2 BW0k3 BW0k4 BW0k5 BW0k6 BW0k7 BW0kz
  have szy4 : x3.heap.size ≤ y4.heap.size := hb.size
  have BW0' := Lib.hid (BW0.out.below hb)
  clear BW0
  have BW0 := BW0'
  clear BW0'
  have BG0' := Lib.hid (BG0.out.below hb)
  clear BG0
  have BG0 := BG0'
  clear BG0'
  have W0' := Lib.hid (W0.out.below hb)
  clear W0
  have W0 := W0'
  clear W0'
  have G0' := Lib.hid (G0.out.below hb)
  clear G0
  have G0 := G0'
  clear G0'
  have bel' : Below w.heap.size w y4 := below_more bel hb
  clear bel hb
  have bel := bel'
  clear bel'
  have BG0k0 := BG0.out.cell 0 rfl
  have BG0k1 := BG0.out.cell 1 rfl
  have BG0k2 := BG0.out.cell 2 rfl
  have BG0k3 := BG0.out.cell 3 rfl
  have BG0k4 := BG0.out.cell 4 rfl
  have BG0k5 := BG0.out.cell 5 rfl
  have BG0k6 := BG0.out.cell 6 rfl
  have BG0k7 := BG0.out.cell 7 rfl
  have BG0kz := BG0.out.lt
  go_wp2_with fail
  refine (mark_tm _ _ _ (1) _ (by omega) (by omega) G0.out).mono ?_
  rintro e y5 ⟨rfl, own, hc⟩
  clear BG0k0 BG0k1 BG0k2 BG0k3 BG0k4 BG0k5 BG0k6 BG0k7 BG0kz
  have szy5 : y4.heap.size ≤ y5.heap.size := hc.size
  have BW0' := Lib.hid (hc.box BW0.out (fun hm => by have q := G0r.out _ hm; omega))
  clear BW0
  have BW0 := BW0'
  clear BW0'
  have BG0' := Lib.hid (hc.box BG0.out (fun hm => by have q := G0r.out _ hm; omega))
  clear BG0
  have BG0 := BG0'
  clear BG0'
  have W0' := Lib.hid (W0.out.chg hc (fun k hk hm => by have q := G0r.out _ hm; have p := W0r.out _ hk; omega))
  clear W0
  have W0 := W0'
  clear W0'
  clear G0
  have G0 := Lib.hid own
  have bel' : Below w.heap.size w y5 := hc.below bel bel.size (fun b hb => by have q := G0r.out _ hb; omega)
  clear bel hc own
  have bel := bel'
  clear bel'
  have hq : ¬ ((1 + 2 * (tmLen noTm : Nat) : Int) < 0) := by omega
  have BG0k0 := BG0.out.cell 0 rfl
  have BG0k1 := BG0.out.cell 1 rfl
  have BG0k2 := BG0.out.cell 2 rfl
  have BG0k3 := BG0.out.cell 3 rfl
  have BG0k4 := BG0.out.cell 4 rfl
  have BG0k5 := BG0.out.cell 5 rfl
  have BG0k6 := BG0.out.cell 6 rfl
  have BG0k7 := BG0.out.cell 7 rfl
  have BG0kz := BG0.out.lt
  go_wp2_with fail
  refine (held_tm _ (noTm) 1 _ (by omega) (by omega) G0.out.rd).mono ?_
  rintro e y6 ⟨rfl, hb⟩
  clear BG0k0 BG0k1 BG0k2 BG0k3 BG0k4 BG0k5 BG0k6 BG0k7 BG0kz
  have szy6 : y5.heap.size ≤ y6.heap.size := hb.size
  have BW0' := Lib.hid (BW0.out.below hb)
  clear BW0
  have BW0 := BW0'
  clear BW0'
  have BG0' := Lib.hid (BG0.out.below hb)
  clear BG0
  have BG0 := BG0'
  clear BG0'
  have W0' := Lib.hid (W0.out.below hb)
  clear W0
  have W0 := W0'
  clear W0'
  have G0' := Lib.hid (G0.out.below hb)
  clear G0
  have G0 := G0'
  clear G0'
  have bel' : Below w.heap.size w y6 := below_more bel hb
  clear bel hb
  have bel := bel'
  clear bel'
  go_wp2_with fail
  refine (impl_noterms _).mono ?_
  rintro e y7 ⟨vv, rfl, own, hb⟩
  have szy7 : y6.heap.size ≤ y7.heap.size := hb.size
  have BW0' := Lib.hid (BW0.out.below hb)
  clear BW0
  have BW0 := BW0'
  clear BW0'
  have BG0' := Lib.hid (BG0.out.below hb)
  clear BG0
  have BG0 := BG0'
  clear BG0'
  have W0' := Lib.hid (W0.out.below hb)
  clear W0
  have W0 := W0'
  clear W0'
  have G0' := Lib.hid (G0.out.below hb)
  clear G0
  have G0 := G0'
  clear G0'
  have bel' : Below w.heap.size w y7 := below_more bel hb
  clear bel hb
  have bel := bel'
  clear bel'
  have H0 := Lib.hid own
  have fpk := own.fp
  obtain ⟨Ah_0, nh_0, ch_0, Ah_1, nh_1, ch_1, Ah_2, nh_2, ch_2, Ah_3, nh_3, ch_3, rfl, -, -, -, -, -⟩ := own
  have H0r : Hid (∀ k ∈ fpOf [.int .i64 noTm.taint.base, .slice Ah_0 nh_0 ch_0, .int .i64 noTm.clear.base, .slice Ah_1 nh_1 ch_1, .int .i64 noTm.raise.base, .slice Ah_2 nh_2 ch_2, .int .i64 noTm.verify.base, .slice Ah_3 nh_3 ch_3], y6.heap.size ≤ k ∧ k < y7.heap.size) := Lib.hid fpk
  clear fpk
  have BW0k0 := BW0.out.cell 0 rfl
  have BW0k1 := BW0.out.cell 1 rfl
  have BW0k2 := BW0.out.cell 2 rfl
  have BW0k3 := BW0.out.cell 3 rfl
  have BW0k4 := BW0.out.cell 4 rfl
  have BW0k5 := BW0.out.cell 5 rfl
  have BW0k6 := BW0.out.cell 6 rfl
  have BW0k7 := BW0.out.cell 7 rfl
  have BW0kz := BW0.out.lt
  go_wp2_with fail
  generalize hW : y7.alloc (.cells #[.int .i64 noTm.taint.base, .slice Ah_0 nh_0 ch_0, .int .i64 noTm.clear.base, .slice Ah_1 nh_1 ch_1, .int .i64 noTm.raise.base, .slice Ah_2 nh_2 ch_2, .int .i64 noTm.verify.base, .slice Ah_3 nh_3 ch_3] 33) = x8
  obtain ⟨nb0, hsz, hb⟩ := laid1 (ps := [.int .i64 noTm.taint.base, .slice Ah_0 nh_0 ch_0, .int .i64 noTm.clear.base, .slice Ah_1 nh_1 ch_1, .int .i64 noTm.raise.base, .slice Ah_2 nh_2 ch_2, .int .i64 noTm.verify.base, .slice Ah_3 nh_3 ch_3]) hW
  have BW0' := Lib.hid (BW0.out.below hb)
  clear BW0
  have BW0 := BW0'
  clear BW0'
  have BG0' := Lib.hid (BG0.out.below hb)
  clear BG0
  have BG0 := BG0'
  clear BG0'
  have W0' := Lib.hid (W0.out.below hb)
  clear W0
  have W0 := W0'
  clear W0'
  have G0' := Lib.hid (G0.out.below hb)
  clear G0
  have G0 := G0'
  clear G0'
  have H0' := Lib.hid (H0.out.below hb)
  clear H0
  have H0 := H0'
  clear H0'
  have bel' : Below w.heap.size w x8 := below_more bel hb
  clear bel hb
  have bel := bel'
  clear bel'
  have BH0 := Lib.hid nb0
  have szx8 := hsz
  clear hW hsz nb0
  refine (eq_tm _ _ (noTm) (noTm) _ H0.out.rd W0.out.rd).mono ?_
  rintro e y9 ⟨rfl, hb⟩
  clear BW0k0 BW0k1 BW0k2 BW0k3 BW0k4 BW0k5 BW0k6 BW0k7 BW0kz
  have szy9 : x8.heap.size ≤ y9.heap.size := hb.size
  have BW0' := Lib.hid (BW0.out.below hb)
  clear BW0
  have BW0 := BW0'
  clear BW0'
  have BG0' := Lib.hid (BG0.out.below hb)
  clear BG0
  have BG0 := BG0'
  clear BG0'
  have BH0' := Lib.hid (BH0.out.below hb)
  clear BH0
  have BH0 := BH0'
  clear BH0'
  have W0' := Lib.hid (W0.out.below hb)
  clear W0
  have W0 := W0'
  clear W0'
  have G0' := Lib.hid (G0.out.below hb)
  clear G0
  have G0 := G0'
  clear G0'
  have H0' := Lib.hid (H0.out.below hb)
  clear H0
  have H0 := H0'
  clear H0'
  have bel' : Below w.heap.size w y9 := below_more bel hb
  clear bel hb
  have bel := bel'
  clear bel'
  have BG0k0 := BG0.out.cell 0 rfl
  have BG0k1 := BG0.out.cell 1 rfl
  have BG0k2 := BG0.out.cell 2 rfl
  have BG0k3 := BG0.out.cell 3 rfl
  have BG0k4 := BG0.out.cell 4 rfl
  have BG0k5 := BG0.out.cell 5 rfl
  have BG0k6 := BG0.out.cell 6 rfl
  have BG0k7 := BG0.out.cell 7 rfl
  have BG0kz := BG0.out.lt
  go_wp2_with fail
  refine (held_tm _ (noTm) 1 _ (by omega) (by omega) G0.out.rd).mono ?_
  rintro e y10 ⟨rfl, hb⟩
  clear BG0k0 BG0k1 BG0k2 BG0k3 BG0k4 BG0k5 BG0k6 BG0k7 BG0kz
  have szy10 : y9.heap.size ≤ y10.heap.size := hb.size
  have BW0' := Lib.hid (BW0.out.below hb)
  clear BW0
  have BW0 := BW0'
  clear BW0'
  have BG0' := Lib.hid (BG0.out.below hb)
  clear BG0
  have BG0 := BG0'
  clear BG0'
  have BH0' := Lib.hid (BH0.out.below hb)
  clear BH0
  have BH0 := BH0'
  clear BH0'
  have W0' := Lib.hid (W0.out.below hb)
  clear W0
  have W0 := W0'
  clear W0'
  have G0' := Lib.hid (G0.out.below hb)
  clear G0
  have G0 := G0'
  clear G0'
  have H0' := Lib.hid (H0.out.below hb)
  clear H0
  have H0 := H0'
  clear H0'
  have bel' : Below w.heap.size w y10 := below_more bel hb
  clear bel hb
  have bel := bel'
  clear bel'
  go_wp2
  go_ret
  exact ⟨rfl, bel⟩

set_option maxRecDepth 100000 in
theorem lifted (os : Os) (started : os.Started) (H : Type) (enc : TypeId × Value → H) :
    ReturnsInHanded {} Try.checked os 4 .any (Rows.fnExactNoTermsSpec.pre6 enc Try.prog Try.f4 Rows.fnExactNoTermsRow.domain false) (Rows.fnExactNoTermsSpec.post enc Try.prog Try.f4 false true false false) := by
  refine returnsInHanded_of_change (C := Try.checked) own started (by kernel_rfl) Try.func4
    (ChangeSpec.witness6 (enc := enc) (C := Try.checked) false ⟨#[], #[], []⟩ 8 (by kernel_rfl) (by kernel_rfl) (by kernel_rfl) (by kernel_rfl)) ?_
  intro W base args ds gs before hval0 hW hcnd _
  have hval : ∀ (j : Nat) t v, Try.f4.params[j]? = some t → args[j]? = some v → Value.okWide Try.prog W .any base t v := hval0
  have hW' := hW
  obtain ⟨p, q, hA0, hV, rfl, hfz, hnd⟩ := hW
  have hA : DataW.TrodAll enc Try.prog W 0 (fun _ => true) true Try.f4.params.toList args.toList ds p := hA0
  rw [Try.params4] at hA hval
  obtain ⟨hargs, rfl, rfl⟩ := trodAll_nil hA
  obtain rfl : args = #[] := by cases args; simp_all
  obtain ⟨rfl, rfl⟩ := trodVars_none hV
  clear hA0 hval0
  refine (walk  (w := W)).mono fun e W' ⟨he, bel⟩ => ?_
  subst he
  exact ⟨_, rfl, _, _, _, [], _, [], hW', (trodAll_cons_mk (shut_bool Try.underlying4 _) trodAll_mk0), trodAll_mk0, rfl, bel.frame _, fun h => by cases h⟩

theorem said : Rows.FnExactNoTermsSaid :=
  OpenClaim.holds_of_wide 4 Try.f4 rfl rfl rfl rfl rfl rfl rfl ⟨rfl, rfl, rfl, rfl, rfl⟩ rfl rfl rfl rfl rfl (by kernel_rfl) Try.func4 (by kernel_rfl)
    (of_decide_eq_true (by kernel_rfl)) (by unfold Func.isWrapper; first | (rw [if_pos (by decide +kernel)]; kernel_rfl) | (rw [if_neg (by decide +kernel)]; exact ⟨rfl, rfl⟩))
    (fun os started H enc _ => lifted os started H enc)

theorem proved : Rows.FnExactNoTermsSaid := said
#print axioms proved
end Go.Proofs.Ytedaknjjcdlpnaa.fnExactNoTerms
