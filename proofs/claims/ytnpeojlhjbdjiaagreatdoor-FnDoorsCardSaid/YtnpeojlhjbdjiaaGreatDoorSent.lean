/-
  What a row's listed variables give a walk: the sentinels, apart, and the handle that errors asks for.
-/
import Derived.Test.YtnpeojlhjbdjiaaGreatDoorRows
import Derived.Test.YtnpeojlhjbdjiaaGreatDoorErrs
import Derived.LaidHandle
import Derived.LaidSub
import Derived.LaidLaws
import Derived.Stop.LaidErr
import Derived.Stop.LaidTwo
import Derived.Stop.Texts
namespace Go.Proofs.YtnpeojlhjbdjiaaGreatDoor
set_option maxRecDepth 100000
open Go.ChangeShapes Go.WideShapes Go.ChangeAt Go.RowKit

theorem se_star : "*" ++ "errors.errorString" = "*errors.errorString" := by decide
theorem se_row (u : TypeId) (h : Tryz.prog.typeName? 3 u = some "*errors.errorString") : u = 149 :=
  typeName_ptr_named (nm := "errors.errorString") (by rw [se_star]; kernel_rfl) (by kernel_rfl) (by decide) u (by rw [se_star]; exact h)
theorem se_cells : Tryz.prog.cellsOf 171 = 1 := by kernel_rfl
theorem se_cellS : Tryz.prog.cellsOf 9 = 1 := by kernel_rfl
theorem se_et : Tryz.prog.globalNamed "errors.errorType" = some 2 := by kernel_rfl
theorem se_rt : (Tryz.prog.cutTypes.find? (·.1 == "internal/reflectlite.rtype")).map (·.2) = some 128 := by kernel_rfl
theorem se_oneRow : ((List.range Tryz.prog.types.size).filter fun t => Tryz.prog.rowNamed t [101, 114, 114, 111, 114]) = [65] := by kernel_rfl
theorem sent_handle {W : World} {r : List (String × DataW Unit)} (h : handlesMet Tryz.prog (("errors.errorType", Rows.laid_errors_errorType) :: r) W) : W.cell? ⟨2, 0, none⟩ = some (.iface 128 (.agg #[.pointer (some ⟨3, 65, none⟩)])) := by
  obtain ⟨name, u, ty, e1, e2, e3, e4, e5⟩ := h _ (List.mem_cons_self ..)
  have en : name = [101, 114, 114, 111, 114] := (Option.some.inj e1).symm
  subst en
  obtain rfl := Option.some.inj (se_rt.symm.trans e2)
  have hm : ty ∈ (List.range Tryz.prog.types.size).filter fun t => Tryz.prog.rowNamed t [101, 114, 114, 111, 114] := List.mem_filter.2 ⟨List.mem_range.2 e3, e4⟩
  rw [se_oneRow] at hm
  obtain rfl := List.mem_singleton.1 hm
  have hh : typeHandle Tryz.prog 65 = .pointer (some ⟨3, 65, none⟩) := by kernel_rfl
  rw [hh] at e5
  simpa using World.var?_cell se_et e5 0
theorem laidMet_drop2 {Q : Program} {x y : String × DataW Unit} {r : List (String × DataW Unit)} {w : World} (h : laidMet Q (x :: y :: r) w) : laidMet Q (x :: r) w := by
  obtain ⟨ps, hv, hnd, hrows⟩ := h
  obtain ⟨n, d⟩ := x
  obtain ⟨n', d'⟩ := y
  obtain ⟨g, t, cs, fuel, p, q, e1, e2, e3, e4, ⟨g', t', cs', fuel', p', q', f1, f2, f3, f4, hq, rfl⟩, rfl⟩ := hv
  have hs : List.Sublist (MemPlace.row ⟨g, 0, none⟩ cs.size ++ p ++ q') (MemPlace.row ⟨g, 0, none⟩ cs.size ++ p ++ (MemPlace.row ⟨g', 0, none⟩ cs'.size ++ p' ++ q')) := List.Sublist.append (List.Sublist.refl _) (List.sublist_append_right _ _)
  exact ⟨_, ⟨g, t, cs, fuel, p, q', e1, e2, e3, e4, hq, rfl⟩, hnd.sublist hs, fun b off hp => hrows b off (hs.subset hp)⟩
theorem var_below {Q : Program} {W W' : World} {n : String} {cs : Array Value} (h : W.var? Q n = some cs) (hb : Below W.heap.size W W') : W'.var? Q n = some cs := by
  unfold World.var? at h ⊢
  cases hg : Q.globalNamed n with
  | none => simp [hg] at h
  | some g =>
    simp only [hg, Option.bind_some] at h ⊢
    have hlt : g < W.heap.size := by
      rcases Nat.lt_or_ge g W.heap.size with h' | h'
      · exact h'
      · simp [Array.getElem?_eq_none h'] at h
    rw [hb.block g hlt]
    exact h
theorem gn_errNotRight : Tryz.prog.globalNamed "loop.example/g00805/impl.errNotRight" = some 0 := by kernel_rfl
theorem gt_errNotRight : (Tryz.prog.globals[0]?).map (·.type) = some 65 := by kernel_rfl

theorem gn_errTooHigh : Tryz.prog.globalNamed "loop.example/g00805/impl.errTooHigh" = some 1 := by kernel_rfl
theorem gt_errTooHigh : (Tryz.prog.globals[1]?).map (·.type) = some 65 := by kernel_rfl
theorem sent_high {W : World} (h : laidMetH Tryz.prog [("errors.errorType", Rows.laid_errors_errorType), ("loop.example/g00805/impl.errNotRight", Rows.laid_loop_example_g00805_impl_errNotRight), ("loop.example/g00805/impl.errTooHigh", Rows.laid_loop_example_g00805_impl_errTooHigh)] W) :
    ∃ (a b : Addr), W.var? Tryz.prog "loop.example/g00805/impl.errNotRight" = some #[.iface 149 (.pointer (some a))] ∧ W.var? Tryz.prog "loop.example/g00805/impl.errTooHigh" = some #[.iface 149 (.pointer (some b))] ∧ Sent W 1 := by
  obtain ⟨hL, hH⟩ := laidMetH_iff.1 h
  have hL' : laidMet Tryz.prog [("loop.example/g00805/impl.errNotRight", Rows.laid_loop_example_g00805_impl_errNotRight), ("loop.example/g00805/impl.errTooHigh", Rows.laid_loop_example_g00805_impl_errTooHigh)] W := hL
  have he := sent_handle (h := hH)
  obtain ⟨a0, a1, s0, s1, c0, c1, t0, t1, hv0, hv1, hc0, hs0, hz0, hc1, hs1, hz1, hne, hb0, hb1⟩ := laid_sentinels2 hL' gn_errNotRight gt_errNotRight gn_errTooHigh gt_errTooHigh Tryz.underlying65 se_row Tryz.underlying149 Tryz.underlying171 rfl rfl Tryz.underlying9 se_cells se_cellS
  exact ⟨a0, a1, hv0, hv1, he, a0, a1, c0, c1, t0, t1, by simpa using World.var?_cell gn_errNotRight hv0 0, by simpa using World.var?_cell gn_errTooHigh hv1 0, hne, hb0, hb1⟩

theorem vars_read3 {H : Type} (enc : TypeId × Value → H) {Q : Program} {W : World} {n0 n1 n2 : String} {g0 g1 g2 : Nat} {t0 t1 t2 : TypeId} {ms0 ms1 ms2 : Array (String × TypeId)} {x0 x1 x2 : Value}
    (hg0 : Q.globalNamed n0 = some g0) (ht0 : (Q.globals[g0]?).map (·.type) = some t0) (hi0 : Q.underlying t0 = some (.interface ms0)) (h0 : W.var? Q n0 = some #[x0]) (i0 : IsIface x0)
    (hg1 : Q.globalNamed n1 = some g1) (ht1 : (Q.globals[g1]?).map (·.type) = some t1) (hi1 : Q.underlying t1 = some (.interface ms1)) (h1 : W.var? Q n1 = some #[x1]) (i1 : IsIface x1)
    (hg2 : Q.globalNamed n2 = some g2) (ht2 : (Q.globals[g2]?).map (·.type) = some t2) (hi2 : Q.underlying t2 = some (.interface ms2)) (h2 : W.var? Q n2 = some #[x2]) (i2 : IsIface x2) (sp : Nat → Bool) :
    DataW.TrodVars enc Q W sp [n0, n1, n2] [tok enc x0, tok enc x1, tok enc x2] [.cell g0 0, .cell g1 0, .cell g2 0] :=
  ⟨g0, t0, #[x0], 1, [], [.cell g1 0, .cell g2 0], hg0, ht0, h0, trod_held hi0 i0 0, ⟨g1, t1, #[x1], 1, [], [.cell g2 0], hg1, ht1, h1, trod_held hi1 i1 0, ⟨g2, t2, #[x2], 1, [], [], hg2, ht2, h2, trod_held hi2 i2 0, rfl, rfl⟩, rfl⟩, rfl⟩
end Go.Proofs.YtnpeojlhjbdjiaaGreatDoor
