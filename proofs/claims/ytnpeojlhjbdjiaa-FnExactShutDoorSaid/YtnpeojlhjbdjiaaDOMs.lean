/-
  Msg that came in, opened.
-/
import Derived.Test.YtnpeojlhjbdjiaaDOTm
import Derived.Test.YtnpeojlhjbdjiaaDHelp
namespace Go.Proofs.Ytnpeojlhjbdjiaa
set_option maxRecDepth 100000
open Go.RowKit Go.ChangeShapes Go.WideShapes Go.Deep

theorem dr_ms {H : Type} {enc : TypeId × Value → H} {W : World} {rd : Nat → Bool} {held : Bool} (m : Nat) (es : List Value) (y : DataW H × List MemPlace) (hl : es.length = 12) (h : DataW.trod enc Try.prog W 0 rd held m 28 es = some y) : ∃ x : Ms, Rds W (dtMs x) es := by
  obtain ⟨m0, y0, k0⟩ := trod_field Try.underlying28 h 0 _ rfl
  obtain ⟨m1, y1, k1⟩ := trod_field Try.underlying28 h 1 _ rfl
  obtain ⟨m2, y2, k2⟩ := trod_field Try.underlying28 h 2 _ rfl
  obtain ⟨m3, y3, k3⟩ := trod_field Try.underlying28 h 3 _ rfl
  match es, hl with
  | [a0, a1, a2, a3, a4, a5, a6, a7, a8, a9, a10, a11], _ =>
    obtain ⟨v0, e0, -⟩ := dr_int m0 [a0] y0 (by simpa [show Try.prog.cellsOf 2 = 1 by kernel_rfl] using k0)
    obtain rfl := (List.cons.inj e0).1
    obtain ⟨v1, e1, -⟩ := dr_int m1 [a1] y1 (by simpa [show Try.prog.cellsOf 2 = 1 by kernel_rfl] using k1)
    obtain rfl := (List.cons.inj e1).1
    obtain ⟨v2, r2⟩ := dr_lab m2 [a2, a3] y2 rfl (by simpa [show Try.prog.cellsOf 24 = 2 by kernel_rfl] using k2)
    obtain ⟨v3, r3⟩ := dr_tm m3 [a4, a5, a6, a7, a8, a9, a10, a11] y3 rfl (by simpa [show Try.prog.cellsOf 26 = 8 by kernel_rfl] using k3)
    exact ⟨⟨v0, v1, v2, v3⟩, by unfold dtMs; exact Rds.mk_num (Rds.mk_num ((r2).append (r3)))⟩
theorem openD_ms {H : Type} {enc : TypeId × Value → H} {W : World} {base : Nat} {v : Value} {d : DataW H} {p : List MemPlace}
    (hv : Value.okWide Try.prog W .any base 28 v) (h : DataW.Trod enc Try.prog W 0 (fun _ => true) true 28 v d p) : ∃ (us : List Value) (x : Ms), v = .agg us.toArray ∧ Rds W (dtMs x) us := by
  obtain ⟨cs, rfl, hsz⟩ := okWide_struct Try.underlying28 hv
  obtain ⟨fuel, hf⟩ := h
  have hl : cs.toList.length = 12 := by rw [Array.length_toList, hsz]; kernel_rfl
  obtain ⟨x, hx⟩ := dr_ms fuel cs.toList _ hl (by simpa [Value.cells] using hf)
  exact ⟨cs.toList, x, by simp, hx⟩
end Go.Proofs.Ytnpeojlhjbdjiaa
