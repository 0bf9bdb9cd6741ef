/-
  Terms that came in, opened.
-/
import Derived.Test.YtnpeojlhjbdjiaaDOpen
import Derived.Test.YtnpeojlhjbdjiaaDHelp
namespace Go.Proofs.Ytnpeojlhjbdjiaa
set_option maxRecDepth 100000
open Go.RowKit Go.ChangeShapes Go.WideShapes Go.Deep

theorem dr_tm {H : Type} {enc : TypeId × Value → H} {W : World} {rd : Nat → Bool} {held : Bool} (m : Nat) (es : List Value) (y : DataW H × List MemPlace) (hl : es.length = 8) (h : DataW.trod enc Try.prog W 0 rd held m 26 es = some y) : ∃ x : Tm, Rds W (dtTm x) es := by
  obtain ⟨m0, y0, k0⟩ := trod_field Try.underlying26 h 0 _ rfl
  obtain ⟨m1, y1, k1⟩ := trod_field Try.underlying26 h 1 _ rfl
  obtain ⟨m2, y2, k2⟩ := trod_field Try.underlying26 h 2 _ rfl
  obtain ⟨m3, y3, k3⟩ := trod_field Try.underlying26 h 3 _ rfl
  match es, hl with
  | [a0, a1, a2, a3, a4, a5, a6, a7], _ =>
    obtain ⟨v0, r0⟩ := dr_lab m0 [a0, a1] y0 rfl (by simpa [show Try.prog.cellsOf 24 = 2 by kernel_rfl] using k0)
    obtain ⟨v1, r1⟩ := dr_lab m1 [a2, a3] y1 rfl (by simpa [show Try.prog.cellsOf 24 = 2 by kernel_rfl] using k1)
    obtain ⟨v2, r2⟩ := dr_lab m2 [a4, a5] y2 rfl (by simpa [show Try.prog.cellsOf 24 = 2 by kernel_rfl] using k2)
    obtain ⟨v3, r3⟩ := dr_lab m3 [a6, a7] y3 rfl (by simpa [show Try.prog.cellsOf 24 = 2 by kernel_rfl] using k3)
    exact ⟨⟨v0, v1, v2, v3⟩, by unfold dtTm; exact (r0).append ((r1).append ((r2).append (r3)))⟩
theorem openD_tm {H : Type} {enc : TypeId × Value → H} {W : World} {base : Nat} {v : Value} {d : DataW H} {p : List MemPlace}
    (hv : Value.okWide Try.prog W .any base 26 v) (h : DataW.Trod enc Try.prog W 0 (fun _ => true) true 26 v d p) : ∃ (us : List Value) (x : Tm), v = .agg us.toArray ∧ Rds W (dtTm x) us := by
  obtain ⟨cs, rfl, hsz⟩ := okWide_struct Try.underlying26 hv
  obtain ⟨fuel, hf⟩ := h
  have hl : cs.toList.length = 8 := by rw [Array.length_toList, hsz]; kernel_rfl
  obtain ⟨x, hx⟩ := dr_tm fuel cs.toList _ hl (by simpa [Value.cells] using hf)
  exact ⟨cs.toList, x, by simp, hx⟩
end Go.Proofs.Ytnpeojlhjbdjiaa
