/-
  FnExactLevelOf: whatever the input, the law returns true and its arguments read as they did; no condition.
-/
import Derived.Test.YtobggbejkfkodaaBase
import Derived.Test.YtobggbejkfkodaaRows
import Derived.Test.YtobggbejkfkodaaOpen
import Derived.Test.YtobggbejkfkodaaSpecLab5
import Derived.Test.YtobggbejkfkodaaImplLab2
namespace Go.Proofs.Ytobggbejkfkodaa.fnExactLevelOf
set_option maxRecDepth 100000
open Go.ChangeShapes Go.WideShapes Go.ChangeAt Go.RowKit
open Go.ChangeMaps (open_string shut_string)
set_option linter.unusedVariables false

set_option maxHeartbeats 1000000 in
theorem walk {w : World} (v : Value) (l : Lab) (h : ArgLab w v l) (hd : Int) (wh : (Lit.int .i64 hd).wf = true) :
    Calls Try.prog 5 #[v, .int .i64 hd] w fun e w' => e = .returned (.bool true) ∧ Below w.heap.size w w' := by
  have h0 := h
  obtain ⟨A, n, c, rfl, hn, hc, hm, -⟩ := h
  have hm' : n ≤ 9223372036854775807 := by unfold maxLen at hm; omega
  clear hc hm
  by_cases hbig : n ≤ 1048576
  · have hr := h0.rd (by omega)
    clear h0
    go_enter Try.func5, Try.ntmps5
    go_wp2_with fail
    refine (sz_lab_yes A n c l.base 1048576 _ (by omega) (by omega) (by omega)).mono ?_
    rintro e w1 ⟨rfl, hb⟩
    obtain ⟨Pc0, Pc1, Pz, bel1⟩ := box2 hb
    have hge : ¬ (1048576 : Int) - n < 0 := by omega
    clear hb
    go_wp2_with fail
    refine (to_lab _ l _ (hr.below (by first | exact bel1 | exact bel1.alloc bel1.size _))).mono ?_
    rintro e w2 ⟨v2, rfl, own2, hb⟩
    have bel2 : Below w.heap.size w w2 := Below.trans (by first | exact bel1 | exact bel1.alloc bel1.size _) (hb.mono (by first | exact bel1.size | (have := bel1.size; simp; omega)))
    have Pc0' : w2.cell? ⟨w.heap.size, 0, none⟩ = some (.int .i64 l.base) := (hb.cell (by simp; omega)).trans (by first | exact Pc0 | (simp [go_sem, Pz, Pc0]; done))
    have Pc1' : w2.cell? ⟨w.heap.size, 1, none⟩ = some (.slice A n c) := (hb.cell (by simp; omega)).trans (by first | exact Pc1 | (simp [go_sem, Pz, Pc1]; done))
    have Pz' : w.heap.size < w2.heap.size := block_lt_of_cell Pc0'
    clear Pc0 Pc1 Pz
    have Pc0 := Pc0'
    have Pc1 := Pc1'
    have Pz := Pz'
    clear Pc0' Pc1' Pz'
    have rd2 := own2.rd
    have own2' := own2
    obtain ⟨A2, n2, c2, rfl, -, -, -⟩ := own2'
    clear hb
    go_wp2_with fail
    refine (spec_levelof _ l hd _ rd2).mono ?_
    rintro e w3 ⟨rfl, hb⟩
    have bel3 : Below w.heap.size w w3 := Below.trans (by first | exact bel2 | exact bel2.alloc bel2.size _) (hb.mono (by first | exact bel2.size | (have := bel2.size; simp; omega)))
    have Pc0' : w3.cell? ⟨w.heap.size, 0, none⟩ = some (.int .i64 l.base) := (hb.cell (by simp; omega)).trans (by first | exact Pc0 | (simp [go_sem, Pz, Pc0]; done))
    have Pc1' : w3.cell? ⟨w.heap.size, 1, none⟩ = some (.slice A n c) := (hb.cell (by simp; omega)).trans (by first | exact Pc1 | (simp [go_sem, Pz, Pc1]; done))
    have Pz' : w.heap.size < w3.heap.size := block_lt_of_cell Pc0'
    clear Pc0 Pc1 Pz
    have Pc0 := Pc0'
    have Pc1 := Pc1'
    have Pz := Pz'
    clear Pc0' Pc1' Pz'
    clear hb own2 rd2
    go_wp2_with fail
    refine (to_lab _ l _ (hr.below (by first | exact bel3 | exact bel3.alloc bel3.size _))).mono ?_
    rintro e w4 ⟨v4, rfl, own4, hb⟩
    have bel4 : Below w.heap.size w w4 := Below.trans (by first | exact bel3 | exact bel3.alloc bel3.size _) (hb.mono (by first | exact bel3.size | (have := bel3.size; simp; omega)))
    have Pc0' : w4.cell? ⟨w.heap.size, 0, none⟩ = some (.int .i64 l.base) := (hb.cell (by simp; omega)).trans (by first | exact Pc0 | (simp [go_sem, Pz, Pc0]; done))
    have Pc1' : w4.cell? ⟨w.heap.size, 1, none⟩ = some (.slice A n c) := (hb.cell (by simp; omega)).trans (by first | exact Pc1 | (simp [go_sem, Pz, Pc1]; done))
    have Pz' : w.heap.size < w4.heap.size := block_lt_of_cell Pc0'
    clear Pc0 Pc1 Pz
    have Pc0 := Pc0'
    have Pc1 := Pc1'
    have Pz := Pz'
    clear Pc0' Pc1' Pz'
    have rd4 := own4.rd
    have own4' := own4
    obtain ⟨A4, n4, c4, rfl, -, -, -⟩ := own4'
    clear hb
    go_wp2_with fail
    refine (impl_levelof _ l hd _ (rd4.alloc _)).mono ?_
    rintro e w5 ⟨rfl, hb⟩
    have bel5 : Below w.heap.size w w5 := Below.trans (by first | exact bel4 | exact bel4.alloc bel4.size _) (hb.mono (by first | exact bel4.size | (have := bel4.size; simp; omega)))
    have Xc0 : w5.cell? ⟨w4.heap.size, 0, none⟩ = some (.int .i64 l.base) := (hb.cell (by simp)).trans (World.cell?_alloc_new _ _ _ 0)
    have Xc1 : w5.cell? ⟨w4.heap.size, 1, none⟩ = some (.slice A4 n4 c4) := (hb.cell (by simp)).trans (World.cell?_alloc_new _ _ _ 1)
    have Xz := block_lt_of_cell Xc0
    have rd5 := (rd4.alloc _).below hb
    have Pc0' : w5.cell? ⟨w.heap.size, 0, none⟩ = some (.int .i64 l.base) := (hb.cell (by simp; omega)).trans (by first | exact Pc0 | (simp [go_sem, Pz, Pc0]; done))
    have Pc1' : w5.cell? ⟨w.heap.size, 1, none⟩ = some (.slice A n c) := (hb.cell (by simp; omega)).trans (by first | exact Pc1 | (simp [go_sem, Pz, Pc1]; done))
    have Pz' : w.heap.size < w5.heap.size := block_lt_of_cell Pc0'
    clear Pc0 Pc1 Pz
    have Pc0 := Pc0'
    have Pc1 := Pc1'
    have Pz := Pz'
    clear Pc0' Pc1' Pz'
    clear hb own4 rd4
    have heq := labEq_rfl l
    go_wp2
    go_region_held3 (fun w' => w'.cell? ⟨w.heap.size, 0, none⟩ = some (.int .i64 l.base) ∧ w'.cell? ⟨w.heap.size, 1, none⟩ = some (.slice A n c) ∧ w'.cell? ⟨w4.heap.size, 0, none⟩ = some (.int .i64 l.base) ∧ w'.cell? ⟨w4.heap.size, 1, none⟩ = some (.slice A4 n4 c4))
      (first | exact ⟨kb0, kb1, kb2, kb3⟩ | exact ⟨ka0, ka1, ka2, ka3⟩ | go_keep)
      (first
      | (go_at_call 11
         refine (to_lab _ l _ (hr.below (by first | exact bel5 | exact bel5.drew))).mono ?_
         rintro e w5a ⟨v5a, rfl, owna, hba⟩
         have ka0 : w5a.cell? ⟨w.heap.size, 0, none⟩ = some (.int .i64 l.base) := (hba.cell (by simp; omega)).trans (by exact Pc0)
         have ka1 : w5a.cell? ⟨w.heap.size, 1, none⟩ = some (.slice A n c) := (hba.cell (by simp; omega)).trans (by exact Pc1)
         have ka2 : w5a.cell? ⟨w4.heap.size, 0, none⟩ = some (.int .i64 l.base) := (hba.cell (by simp; omega)).trans (by exact Xc0)
         have ka3 : w5a.cell? ⟨w4.heap.size, 1, none⟩ = some (.slice A4 n4 c4) := (hba.cell (by simp; omega)).trans (by exact Xc1)
         have za0 : w.heap.size < w5a.heap.size := block_lt_of_cell ka0
         have za1 : w.heap.size < w5a.heap.size := block_lt_of_cell ka1
         have za2 : w4.heap.size < w5a.heap.size := block_lt_of_cell ka2
         have za3 : w4.heap.size < w5a.heap.size := block_lt_of_cell ka3
         have bel5a : Below w.heap.size w w5a := Below.trans (by first | exact bel5 | exact bel5.drew) (hba.mono (by exact bel5.size))
         have rda := owna.rd
         have rdx := rd5.below (by first | exact hba | exact below_undrew hba)
         have KA := Lib.hid owna
         obtain ⟨Aa, na, ca, rfl, -, -, -⟩ := owna
         clear hba)
      | (go_at_call 13
         refine (eq_lab _ _ l l _ (by exact rdx) (by exact rda)).mono ?_
         rintro e w5b ⟨rfl, hbb⟩
         have kb0 : w5b.cell? ⟨w.heap.size, 0, none⟩ = some (.int .i64 l.base) := (hbb.cell (by simp; omega)).trans (by exact ka0)
         have kb1 : w5b.cell? ⟨w.heap.size, 1, none⟩ = some (.slice A n c) := (hbb.cell (by simp; omega)).trans (by exact ka1)
         have kb2 : w5b.cell? ⟨w4.heap.size, 0, none⟩ = some (.int .i64 l.base) := (hbb.cell (by simp; omega)).trans (by exact ka2)
         have kb3 : w5b.cell? ⟨w4.heap.size, 1, none⟩ = some (.slice A4 n4 c4) := (hbb.cell (by simp; omega)).trans (by exact ka3)
         have bel5b : Below w.heap.size w w5b := Below.trans (by exact bel5a) (hbb.mono (by exact bel5a.size))
         clear hbb))
    go_wp2
    go_ret
    exact ⟨rfl, bel5b⟩
  · clear hn h0
    go_enter Try.func5, Try.ntmps5
    go_wp2_with (go_at_call 9; refine (sz_lab_no _ _ _ _ _ _ (by omega) (by omega) (by omega) (by omega)).mono ?_; rintro e w1 ⟨rfl, hb1⟩)
    go_ret
    exact ⟨rfl, ((Below.refl _ _).alloc (Nat.le_refl _) _).trans (hb1.mono (by simp))⟩

set_option maxRecDepth 100000 in
theorem lifted (os : Os) (started : os.Started) (H : Type) (enc : TypeId × Value → H) :
    ReturnsInHanded {} Try.checked os 5 .any (Rows.fnExactLevelOfSpec.pre6 enc Try.prog Try.f5 Rows.fnExactLevelOfRow.domain false) (Rows.fnExactLevelOfSpec.post enc Try.prog Try.f5 false true false false) := by
  refine returnsInHanded_of_change (C := Try.checked) own started (by kernel_rfl) Try.func5
    (ChangeSpec.witness6 (enc := enc) (C := Try.checked) false ⟨#[], #[.agg #[.int .i64 0, .slice none 0 0], .int .i64 0], []⟩ 8 (by kernel_rfl) (by kernel_rfl) (by kernel_rfl) (by kernel_rfl)) ?_
  intro W base args ds gs before hval0 hW hcnd _
  have hval : ∀ (j : Nat) t v, Try.f5.params[j]? = some t → args[j]? = some v → Value.okWide Try.prog W .any base t v := hval0
  have hW' := hW
  obtain ⟨p, q, hA0, hV, rfl, hfz, hnd⟩ := hW
  have hA : DataW.TrodAll enc Try.prog W 0 (fun _ => true) true Try.f5.params.toList args.toList ds p := hA0
  rw [Try.params5] at hA hval
  obtain ⟨v0, vs0, d0, ds0, p0, q0, hargs, rfl, rfl, h0, r0⟩ := trodAll_cons hA
  obtain ⟨v1, vs1, d1, ds1, p1, q1, rfl, rfl, rfl, h1, r1⟩ := trodAll_cons r0
  obtain ⟨rfl, rfl, rfl⟩ := trodAll_nil r1
  obtain rfl : args = #[v0, v1] := by cases args; simp_all
  obtain ⟨rfl, rfl⟩ := trodVars_none hV
  have k0 := h0
  have lt0 : ∀ x ∈ p0, x.block < W.heap.size := by obtain ⟨m, hm⟩ := k0; exact DataW.trod_lt m _ _ _ hm
  have k1 := h1
  have lt1 : ∀ x ∈ p1, x.block < W.heap.size := by obtain ⟨m, hm⟩ := k1; exact DataW.trod_lt m _ _ _ hm
  obtain ⟨l0, hl0⟩ := open_lab (hval 0 24 v0 rfl rfl) h0
  obtain ⟨a1, rfl, rfl, rfl, w1⟩ := open_int Try.underlying2 (hval 1 2 v1 rfl rfl) h1
  clear hA0 hval0
  refine (walk v0 l0 hl0 a1 w1 (w := W)).mono fun e W' ⟨he, bel⟩ => ?_
  subst he
  exact ⟨_, rfl, _, _, _, [], _, [], hW', (trodAll_cons_mk (shut_bool Try.underlying4 _) trodAll_mk0), (trodAll_cons_mk (Below.trod laidOut (by kernel_rfl) (of_decide_eq_true (by kernel_rfl)) k0 bel lt0) (trodAll_cons_mk (Below.trod laidOut (by kernel_rfl) (of_decide_eq_true (by kernel_rfl)) k1 bel lt1) trodAll_mk0)), rfl, bel.frame _, fun h => by cases h⟩

theorem said : Rows.FnExactLevelOfSaid :=
  OpenClaim.holds_of_wide 5 Try.f5 rfl rfl rfl rfl rfl rfl rfl ⟨rfl, rfl, rfl, rfl, rfl⟩ rfl rfl rfl rfl rfl (by kernel_rfl) Try.func5 (by kernel_rfl)
    (of_decide_eq_true (by kernel_rfl)) (by unfold Func.isWrapper; first | (rw [if_pos (by decide +kernel)]; kernel_rfl) | (rw [if_neg (by decide +kernel)]; exact ⟨rfl, rfl⟩))
    (fun os started H enc _ => lifted os started H enc)

theorem proved : Rows.FnExactLevelOfSaid := said
#print axioms proved
end Go.Proofs.Ytobggbejkfkodaa.fnExactLevelOf
