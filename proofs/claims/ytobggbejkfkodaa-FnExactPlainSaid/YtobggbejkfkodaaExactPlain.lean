/-
  FnExactPlain: whatever the input, the law returns true and its arguments read as they did; no condition.
-/
import Derived.Test.YtobggbejkfkodaaBase
import Derived.Test.YtobggbejkfkodaaRows
import Derived.Test.YtobggbejkfkodaaOpen
import Derived.Test.YtobggbejkfkodaaSpecLab5
import Derived.Test.YtobggbejkfkodaaImplLab2
namespace Go.Proofs.Ytobggbejkfkodaa.fnExactPlain
set_option maxRecDepth 100000
open Go.ChangeShapes Go.WideShapes Go.ChangeAt Go.RowKit
open Go.ChangeMaps (open_string shut_string)
set_option linter.unusedVariables false

set_option maxHeartbeats 2000000 in
theorem walk (b : Int) (wb : (Lit.int .i64 b).wf = true) {w : World} :
    Calls Try.prog 4 #[.int .i64 b] w fun e w' => e = .returned (.bool true) ∧ Below w.heap.size w w' := by
  go_enter Try.func4, Try.ntmps4
  have bel := Below.refl w.heap.size w
  go_wp2_with fail
  refine (spec_plain b _).mono ?_
  rintro e w1 ⟨v1, rfl, own, hb⟩
  have W0r : Hid (∀ k, (labRow v1).ownBlock = some k → w.heap.size ≤ k ∧ k < w1.heap.size) := fun k hk => by have := own.row k hk; simpa using this
  have sz1 : w.heap.size ≤ w1.heap.size := by have := hb.size; simpa using this
  have bel' : Below w.heap.size w w1 := bel.trans ((by first | exact hb | exact over_alloc hb | exact below_undrew hb : Below w.heap.size w w1).mono bel.size)
  clear bel hb
  have bel := bel'
  clear bel'
  have W0 := Lib.hid own
  obtain ⟨A1, n1, c1, rfl, -, -, -⟩ := own
  go_wp2_with fail
  refine (impl_plain b _).mono ?_
  rintro e w2 ⟨v2, rfl, own, hb⟩
  have G0r : Hid (∀ k, (labRow v2).ownBlock = some k → w1.heap.size + 1 ≤ k ∧ k < w2.heap.size) := fun k hk => by have := own.row k hk; simpa using this
  have sz2 : w1.heap.size + 1 ≤ w2.heap.size := by have := hb.size; simpa using this
  have Bc0 : w2.cell? ⟨w1.heap.size, 0, none⟩ = some (.int .i64 (plainL b).base) := (hb.cell (by simp)).trans (World.cell?_alloc_new _ _ _ 0)
  have Bc1 : w2.cell? ⟨w1.heap.size, 1, none⟩ = some (.slice A1 n1 c1) := (hb.cell (by simp)).trans (World.cell?_alloc_new _ _ _ 1)
  have Bz := block_lt_of_cell Bc0
  have W0' := Lib.hid (by first | exact W0.out.below hb | exact W0.out.over hb | exact W0.out.below (below_undrew hb))
  clear W0
  have W0 := W0'
  clear W0'
  have bel' : Below w.heap.size w w2 := bel.trans ((by first | exact hb | exact over_alloc hb | exact below_undrew hb : Below w1.heap.size w1 w2).mono bel.size)
  clear bel hb
  have bel := bel'
  clear bel'
  have G0 := Lib.hid own
  obtain ⟨A2, n2, c2, rfl, -, -, -⟩ := own
  have heq := labEq_rfl (plainL b)
  go_wp2_with fail
  refine (eq_lab _ _ (plainL b) (plainL b) _ (by first | exact G0.out.rd | exact G0.out.rd.alloc _) (by first | exact W0.out.rd | exact W0.out.rd.alloc _)).mono ?_
  rintro e w3 ⟨rfl, hb⟩
  have sz3 : w2.heap.size + 1 ≤ w3.heap.size := by have := hb.size; simpa using this
  have Bc0' : w3.cell? ⟨w1.heap.size, 0, none⟩ = some (.int .i64 (plainL b).base) := (hb.cell (by simp; omega)).trans (by first | exact Bc0 | (simp [go_sem, Bz, Bc0]; done))
  have Bc1' : w3.cell? ⟨w1.heap.size, 1, none⟩ = some (.slice A1 n1 c1) := (hb.cell (by simp; omega)).trans (by first | exact Bc1 | (simp [go_sem, Bz, Bc1]; done))
  clear Bc0 Bc1 Bz
  have Bc0 := Bc0'
  have Bc1 := Bc1'
  have Bz := block_lt_of_cell Bc0
  clear Bc0' Bc1'
  have Dc0 : w3.cell? ⟨w2.heap.size, 0, none⟩ = some (.int .i64 (plainL b).base) := (hb.cell (by simp)).trans (World.cell?_alloc_new _ _ _ 0)
  have Dc1 : w3.cell? ⟨w2.heap.size, 1, none⟩ = some (.slice A2 n2 c2) := (hb.cell (by simp)).trans (World.cell?_alloc_new _ _ _ 1)
  have Dz := block_lt_of_cell Dc0
  have W0' := Lib.hid (by first | exact W0.out.below hb | exact W0.out.over hb | exact W0.out.below (below_undrew hb))
  clear W0
  have W0 := W0'
  clear W0'
  have G0' := Lib.hid (by first | exact G0.out.below hb | exact G0.out.over hb | exact G0.out.below (below_undrew hb))
  clear G0
  have G0 := G0'
  clear G0'
  have bel' : Below w.heap.size w w3 := bel.trans ((by first | exact hb | exact over_alloc hb | exact below_undrew hb : Below w2.heap.size w2 w3).mono bel.size)
  clear bel hb
  have bel := bel'
  clear bel'
  go_wp2_with fail
  refine (mark_lab _ (plainL b) _ _ _ (by omega) (by omega) G0.out).mono ?_
  rintro e w4 ⟨rfl, own, hg⟩
  have sz4 : w3.heap.size ≤ w4.heap.size := hg.size
  have Bc0' : w4.cell? ⟨w1.heap.size, 0, none⟩ = some (.int .i64 (plainL b).base) := hg.cell Bc0 (fun e => by have := G0r.out (w1.heap.size) e.symm; omega)
  have Bc1' : w4.cell? ⟨w1.heap.size, 1, none⟩ = some (.slice A1 n1 c1) := hg.cell Bc1 (fun e => by have := G0r.out (w1.heap.size) e.symm; omega)
  have Dc0' : w4.cell? ⟨w2.heap.size, 0, none⟩ = some (.int .i64 (plainL b).base) := hg.cell Dc0 (fun e => by have := G0r.out (w2.heap.size) e.symm; omega)
  have Dc1' : w4.cell? ⟨w2.heap.size, 1, none⟩ = some (.slice A2 n2 c2) := hg.cell Dc1 (fun e => by have := G0r.out (w2.heap.size) e.symm; omega)
  clear Bc0 Bc1 Dc0 Dc1 Bz Dz
  have Bc0 := Bc0'
  have Bc1 := Bc1'
  have Bz := block_lt_of_cell Bc0
  have Dc0 := Dc0'
  have Dc1 := Dc1'
  have Dz := block_lt_of_cell Dc0
  clear Bc0' Bc1' Dc0' Dc1'
  have W0' := Lib.hid (W0.out.keptBy hg (fun k hk e => by have := G0r.out _ e; have := W0r.out _ hk; omega))
  clear W0
  have W0 := W0'
  clear W0'
  clear G0
  have G0 := Lib.hid own
  have bel' : Below w.heap.size w w4 := bel.grown hg bel.size (fun k hk => by have := G0r.out _ hk; omega)
  clear bel hg own
  have bel := bel'
  clear bel'
  have hk2 : ¬ (1 : Int) + 2 * ((plainL b).parts.length : Int) < 0 := by omega
  go_wp2_with fail
  refine (held_lab _ (plainL b) 1 _ (by omega) (by omega) G0.out.rd).mono ?_
  rintro e w5 ⟨rfl, hb⟩
  have sz5 : w4.heap.size ≤ w5.heap.size := by have := hb.size; simpa using this
  have Bc0' : w5.cell? ⟨w1.heap.size, 0, none⟩ = some (.int .i64 (plainL b).base) := (hb.cell (by simp; omega)).trans (by first | exact Bc0 | (simp [go_sem, Bz, Bc0]; done))
  have Bc1' : w5.cell? ⟨w1.heap.size, 1, none⟩ = some (.slice A1 n1 c1) := (hb.cell (by simp; omega)).trans (by first | exact Bc1 | (simp [go_sem, Bz, Bc1]; done))
  have Dc0' : w5.cell? ⟨w2.heap.size, 0, none⟩ = some (.int .i64 (plainL b).base) := (hb.cell (by simp; omega)).trans (by first | exact Dc0 | (simp [go_sem, Dz, Dc0]; done))
  have Dc1' : w5.cell? ⟨w2.heap.size, 1, none⟩ = some (.slice A2 n2 c2) := (hb.cell (by simp; omega)).trans (by first | exact Dc1 | (simp [go_sem, Dz, Dc1]; done))
  clear Bc0 Bc1 Dc0 Dc1 Bz Dz
  have Bc0 := Bc0'
  have Bc1 := Bc1'
  have Bz := block_lt_of_cell Bc0
  have Dc0 := Dc0'
  have Dc1 := Dc1'
  have Dz := block_lt_of_cell Dc0
  clear Bc0' Bc1' Dc0' Dc1'
  have W0' := Lib.hid (by first | exact W0.out.below hb | exact W0.out.over hb | exact W0.out.below (below_undrew hb))
  clear W0
  have W0 := W0'
  clear W0'
  have G0' := Lib.hid (by first | exact G0.out.below hb | exact G0.out.over hb | exact G0.out.below (below_undrew hb))
  clear G0
  have G0 := G0'
  clear G0'
  have bel' : Below w.heap.size w w5 := bel.trans ((by first | exact hb | exact over_alloc hb | exact below_undrew hb : Below w4.heap.size w4 w5).mono bel.size)
  clear bel hb
  have bel := bel'
  clear bel'
  go_wp2_with fail
  refine (impl_plain b _).mono ?_
  rintro e w6 ⟨v6, rfl, own, hb⟩
  have H0r : Hid (∀ k, (labRow v6).ownBlock = some k → w5.heap.size ≤ k ∧ k < w6.heap.size) := fun k hk => by have := own.row k hk; simpa using this
  have sz6 : w5.heap.size ≤ w6.heap.size := by have := hb.size; simpa using this
  have Bc0' : w6.cell? ⟨w1.heap.size, 0, none⟩ = some (.int .i64 (plainL b).base) := (hb.cell (by simp; omega)).trans (by first | exact Bc0 | (simp [go_sem, Bz, Bc0]; done))
  have Bc1' : w6.cell? ⟨w1.heap.size, 1, none⟩ = some (.slice A1 n1 c1) := (hb.cell (by simp; omega)).trans (by first | exact Bc1 | (simp [go_sem, Bz, Bc1]; done))
  have Dc0' : w6.cell? ⟨w2.heap.size, 0, none⟩ = some (.int .i64 (plainL b).base) := (hb.cell (by simp; omega)).trans (by first | exact Dc0 | (simp [go_sem, Dz, Dc0]; done))
  have Dc1' : w6.cell? ⟨w2.heap.size, 1, none⟩ = some (.slice A2 n2 c2) := (hb.cell (by simp; omega)).trans (by first | exact Dc1 | (simp [go_sem, Dz, Dc1]; done))
  clear Bc0 Bc1 Dc0 Dc1 Bz Dz
  have Bc0 := Bc0'
  have Bc1 := Bc1'
  have Bz := block_lt_of_cell Bc0
  have Dc0 := Dc0'
  have Dc1 := Dc1'
  have Dz := block_lt_of_cell Dc0
  clear Bc0' Bc1' Dc0' Dc1'
  have W0' := Lib.hid (by first | exact W0.out.below hb | exact W0.out.over hb | exact W0.out.below (below_undrew hb))
  clear W0
  have W0 := W0'
  clear W0'
  have G0' := Lib.hid (by first | exact G0.out.below hb | exact G0.out.over hb | exact G0.out.below (below_undrew hb))
  clear G0
  have G0 := G0'
  clear G0'
  have bel' : Below w.heap.size w w6 := bel.trans ((by first | exact hb | exact over_alloc hb | exact below_undrew hb : Below w5.heap.size w5 w6).mono bel.size)
  clear bel hb
  have bel := bel'
  clear bel'
  have H0 := Lib.hid own
  obtain ⟨A6, n6, c6, rfl, -, -, -⟩ := own
  go_wp2_with fail
  refine (eq_lab _ _ (plainL b) (plainL b) _ (by first | exact H0.out.rd | exact H0.out.rd.alloc _) (by first | exact W0.out.rd | exact W0.out.rd.alloc _)).mono ?_
  rintro e w7 ⟨rfl, hb⟩
  have sz7 : w6.heap.size + 1 ≤ w7.heap.size := by have := hb.size; simpa using this
  have Bc0' : w7.cell? ⟨w1.heap.size, 0, none⟩ = some (.int .i64 (plainL b).base) := (hb.cell (by simp; omega)).trans (by first | exact Bc0 | (simp [go_sem, Bz, Bc0]; done))
  have Bc1' : w7.cell? ⟨w1.heap.size, 1, none⟩ = some (.slice A1 n1 c1) := (hb.cell (by simp; omega)).trans (by first | exact Bc1 | (simp [go_sem, Bz, Bc1]; done))
  have Dc0' : w7.cell? ⟨w2.heap.size, 0, none⟩ = some (.int .i64 (plainL b).base) := (hb.cell (by simp; omega)).trans (by first | exact Dc0 | (simp [go_sem, Dz, Dc0]; done))
  have Dc1' : w7.cell? ⟨w2.heap.size, 1, none⟩ = some (.slice A2 n2 c2) := (hb.cell (by simp; omega)).trans (by first | exact Dc1 | (simp [go_sem, Dz, Dc1]; done))
  clear Bc0 Bc1 Dc0 Dc1 Bz Dz
  have Bc0 := Bc0'
  have Bc1 := Bc1'
  have Bz := block_lt_of_cell Bc0
  have Dc0 := Dc0'
  have Dc1 := Dc1'
  have Dz := block_lt_of_cell Dc0
  clear Bc0' Bc1' Dc0' Dc1'
  have Ec0 : w7.cell? ⟨w6.heap.size, 0, none⟩ = some (.int .i64 (plainL b).base) := (hb.cell (by simp)).trans (World.cell?_alloc_new _ _ _ 0)
  have Ec1 : w7.cell? ⟨w6.heap.size, 1, none⟩ = some (.slice A6 n6 c6) := (hb.cell (by simp)).trans (World.cell?_alloc_new _ _ _ 1)
  have Ez := block_lt_of_cell Ec0
  have W0' := Lib.hid (by first | exact W0.out.below hb | exact W0.out.over hb | exact W0.out.below (below_undrew hb))
  clear W0
  have W0 := W0'
  clear W0'
  have G0' := Lib.hid (by first | exact G0.out.below hb | exact G0.out.over hb | exact G0.out.below (below_undrew hb))
  clear G0
  have G0 := G0'
  clear G0'
  have H0' := Lib.hid (by first | exact H0.out.below hb | exact H0.out.over hb | exact H0.out.below (below_undrew hb))
  clear H0
  have H0 := H0'
  clear H0'
  have bel' : Below w.heap.size w w7 := bel.trans ((by first | exact hb | exact over_alloc hb | exact below_undrew hb : Below w6.heap.size w6 w7).mono bel.size)
  clear bel hb
  have bel := bel'
  clear bel'
  go_wp2_with fail
  refine (held_lab _ (plainL b) 1 _ (by omega) (by omega) G0.out.rd).mono ?_
  rintro e w8 ⟨rfl, hb⟩
  have sz8 : w7.heap.size ≤ w8.heap.size := by have := hb.size; simpa using this
  have Bc0' : w8.cell? ⟨w1.heap.size, 0, none⟩ = some (.int .i64 (plainL b).base) := (hb.cell (by simp; omega)).trans (by first | exact Bc0 | (simp [go_sem, Bz, Bc0]; done))
  have Bc1' : w8.cell? ⟨w1.heap.size, 1, none⟩ = some (.slice A1 n1 c1) := (hb.cell (by simp; omega)).trans (by first | exact Bc1 | (simp [go_sem, Bz, Bc1]; done))
  have Dc0' : w8.cell? ⟨w2.heap.size, 0, none⟩ = some (.int .i64 (plainL b).base) := (hb.cell (by simp; omega)).trans (by first | exact Dc0 | (simp [go_sem, Dz, Dc0]; done))
  have Dc1' : w8.cell? ⟨w2.heap.size, 1, none⟩ = some (.slice A2 n2 c2) := (hb.cell (by simp; omega)).trans (by first | exact Dc1 | (simp [go_sem, Dz, Dc1]; done))
  have Ec0' : w8.cell? ⟨w6.heap.size, 0, none⟩ = some (.int .i64 (plainL b).base) := (hb.cell (by simp; omega)).trans (by first | exact Ec0 | (simp [go_sem, Ez, Ec0]; done))
  have Ec1' : w8.cell? ⟨w6.heap.size, 1, none⟩ = some (.slice A6 n6 c6) := (hb.cell (by simp; omega)).trans (by first | exact Ec1 | (simp [go_sem, Ez, Ec1]; done))
  clear Bc0 Bc1 Dc0 Dc1 Ec0 Ec1 Bz Dz Ez
  have Bc0 := Bc0'
  have Bc1 := Bc1'
  have Bz := block_lt_of_cell Bc0
  have Dc0 := Dc0'
  have Dc1 := Dc1'
  have Dz := block_lt_of_cell Dc0
  have Ec0 := Ec0'
  have Ec1 := Ec1'
  have Ez := block_lt_of_cell Ec0
  clear Bc0' Bc1' Dc0' Dc1' Ec0' Ec1'
  have W0' := Lib.hid (by first | exact W0.out.below hb | exact W0.out.over hb | exact W0.out.below (below_undrew hb))
  clear W0
  have W0 := W0'
  clear W0'
  have G0' := Lib.hid (by first | exact G0.out.below hb | exact G0.out.over hb | exact G0.out.below (below_undrew hb))
  clear G0
  have G0 := G0'
  clear G0'
  have H0' := Lib.hid (by first | exact H0.out.below hb | exact H0.out.over hb | exact H0.out.below (below_undrew hb))
  clear H0
  have H0 := H0'
  clear H0'
  have bel' : Below w.heap.size w w8 := bel.trans ((by first | exact hb | exact over_alloc hb | exact below_undrew hb : Below w7.heap.size w7 w8).mono bel.size)
  clear bel hb
  have bel := bel'
  clear bel'
  go_wp2
  go_ret
  exact ⟨rfl, bel⟩

set_option maxRecDepth 100000 in
theorem lifted (os : Os) (started : os.Started) (H : Type) (enc : TypeId × Value → H) :
    ReturnsInHanded {} Try.checked os 4 .any (Rows.fnExactPlainSpec.pre6 enc Try.prog Try.f4 Rows.fnExactPlainRow.domain false) (Rows.fnExactPlainSpec.post enc Try.prog Try.f4 false true false false) := by
  refine returnsInHanded_of_change (C := Try.checked) own started (by kernel_rfl) Try.func4
    (ChangeSpec.witness6 (enc := enc) (C := Try.checked) false ⟨#[], #[.int .i64 0], []⟩ 8 (by kernel_rfl) (by kernel_rfl) (by kernel_rfl) (by kernel_rfl)) ?_
  intro W base args ds gs before hval0 hW hcnd _
  have hval : ∀ (j : Nat) t v, Try.f4.params[j]? = some t → args[j]? = some v → Value.okWide Try.prog W .any base t v := hval0
  have hW' := hW
  obtain ⟨p, q, hA0, hV, rfl, hfz, hnd⟩ := hW
  have hA : DataW.TrodAll enc Try.prog W 0 (fun _ => true) true Try.f4.params.toList args.toList ds p := hA0
  rw [Try.params4] at hA hval
  obtain ⟨v0, vs0, d0, ds0, p0, q0, hargs, rfl, rfl, h0, r0⟩ := trodAll_cons hA
  obtain ⟨rfl, rfl, rfl⟩ := trodAll_nil r0
  obtain rfl : args = #[v0] := by cases args; simp_all
  obtain ⟨rfl, rfl⟩ := trodVars_none hV
  have k0 := h0
  have lt0 : ∀ x ∈ p0, x.block < W.heap.size := by obtain ⟨m, hm⟩ := k0; exact DataW.trod_lt m _ _ _ hm
  obtain ⟨a0, rfl, rfl, rfl, w0⟩ := open_int Try.underlying2 (hval 0 2 v0 rfl rfl) h0
  clear hA0 hval0
  refine (walk a0 w0 (w := W)).mono fun e W' ⟨he, bel⟩ => ?_
  subst he
  exact ⟨_, rfl, _, _, _, [], _, [], hW', (trodAll_cons_mk (shut_bool Try.underlying4 _) trodAll_mk0), (trodAll_cons_mk (Below.trod laidOut (by kernel_rfl) (of_decide_eq_true (by kernel_rfl)) k0 bel lt0) trodAll_mk0), rfl, bel.frame _, fun h => by cases h⟩

theorem said : Rows.FnExactPlainSaid :=
  OpenClaim.holds_of_wide 4 Try.f4 rfl rfl rfl rfl rfl rfl rfl ⟨rfl, rfl, rfl, rfl, rfl⟩ rfl rfl rfl rfl rfl (by kernel_rfl) Try.func4 (by kernel_rfl)
    (of_decide_eq_true (by kernel_rfl)) (by unfold Func.isWrapper; first | (rw [if_pos (by decide +kernel)]; kernel_rfl) | (rw [if_neg (by decide +kernel)]; exact ⟨rfl, rfl⟩))
    (fun os started H enc _ => lifted os started H enc)

theorem proved : Rows.FnExactPlainSaid := said
#print axioms proved
end Go.Proofs.Ytobggbejkfkodaa.fnExactPlain
