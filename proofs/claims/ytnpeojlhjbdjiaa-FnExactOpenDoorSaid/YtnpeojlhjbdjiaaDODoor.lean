/-
  Door that came in, opened.
-/
import Derived.Test.YtnpeojlhjbdjiaaDOMs
import Derived.Test.YtnpeojlhjbdjiaaDHelp
namespace Go.Proofs.Ytnpeojlhjbdjiaa
set_option maxRecDepth 100000
open Go.RowKit Go.ChangeShapes Go.WideShapes Go.Deep

theorem dr_door {H : Type} {enc : TypeId × Value → H} {W : World} {rd : Nat → Bool} {held : Bool} (m : Nat) (es : List Value) (y : DataW H × List MemPlace) (hl : es.length = 4) (h : DataW.trod enc Try.prog W 0 rd held m 43 es = some y) : ∃ x : Door, Rds W (dtDoor x) es ∧ WfDoor x := by
  obtain ⟨m0, y0, k0⟩ := trod_field Try.underlying43 h 0 _ rfl
  obtain ⟨m1, y1, k1⟩ := trod_field Try.underlying43 h 1 _ rfl
  obtain ⟨m2, y2, k2⟩ := trod_field Try.underlying43 h 2 _ rfl
  match es, hl with
  | [a0, a1, a2, a3], _ =>
    obtain ⟨v0, e0, f0⟩ := dr_int m0 [a0] y0 (by simpa [show Try.prog.cellsOf 2 = 1 by kernel_rfl] using k0)
    obtain rfl := (List.cons.inj e0).1
    obtain ⟨v1, r1⟩ := dr_lab m1 [a1, a2] y1 rfl (by simpa [show Try.prog.cellsOf 24 = 2 by kernel_rfl] using k1)
    obtain ⟨v2, r2⟩ := row_of_trod (s := 37) (f := dtMs) (cs := [a3]) Try.underlying41 (show Try.prog.cellsOf 28 = 12 by kernel_rfl) (by omega) dtMs_len (fun m es y hl h => dr_ms m es y hl h) (by simpa [show Try.prog.cellsOf 41 = 1 by kernel_rfl] using k2)
    exact ⟨⟨v0, v1, v2⟩, by unfold dtDoor; exact Rds.mk_num ((r1).append (r2)), f0⟩
theorem openD_door {H : Type} {enc : TypeId × Value → H} {W : World} {base : Nat} {v : Value} {d : DataW H} {p : List MemPlace}
    (hv : Value.okWide Try.prog W .any base 43 v) (h : DataW.Trod enc Try.prog W 0 (fun _ => true) true 43 v d p) : ∃ (us : List Value) (x : Door), v = .agg us.toArray ∧ Rds W (dtDoor x) us ∧ WfDoor x := by
  obtain ⟨cs, rfl, hsz⟩ := okWide_struct Try.underlying43 hv
  obtain ⟨fuel, hf⟩ := h
  have hl : cs.toList.length = 4 := by rw [Array.length_toList, hsz]; kernel_rfl
  obtain ⟨x, hx, hq⟩ := dr_door fuel cs.toList _ hl (by simpa [Value.cells] using hf)
  exact ⟨cs.toList, x, by simp, hx, hq⟩
end Go.Proofs.Ytnpeojlhjbdjiaa
