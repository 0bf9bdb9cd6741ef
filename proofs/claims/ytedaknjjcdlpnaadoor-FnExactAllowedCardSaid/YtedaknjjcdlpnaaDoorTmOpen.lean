/-
  Arguments of the laws, opened: terms.
-/
import Derived.Test.YtedaknjjcdlpnaaDoorTm
import Derived.Lib.SmallJoins
namespace Go.Proofs.YtedaknjjcdlpnaaDoor
set_option maxRecDepth 100000
open Go.RowKit Go.ChangeShapes Go.WideShapes Go.Deep

theorem tm_of_trod {H : Type} {enc : TypeId × Value → H} {W : World} {rd : Nat → Bool} {held : Bool} {fuel : Nat} {cs : List Value} {x : DataW H × List MemPlace} (hl : cs.length = 8) (h : DataW.trod enc Tryd.prog W 0 rd held fuel 47 cs = some x) :
    ∃ t : Tm, ArgTm W (.agg cs.toArray) t := by
  obtain ⟨y0, y1, y2, y3, n, -, -, k0, k1, k2, k3⟩ := Go.Joins.trod_struct4 Tryd.underlying47 h
  have hc : Tryd.prog.cellsOf 45 = 2 := by kernel_rfl
  match cs, hl with
  | [a0, a1, a2, a3, a4, a5, a6, a7], _ =>
    obtain ⟨l0, A0, n0, c0, e0, p0, q0, r0, s0⟩ := lab_of_trod (cs := [a0, a1]) rfl (by have h := k0; simp only [hc] at h; exact h)
    obtain ⟨l1, A1, n1, c1, e1, p1, q1, r1, s1⟩ := lab_of_trod (cs := [a2, a3]) rfl (by have h := k1; simp only [hc] at h; exact h)
    obtain ⟨l2, A2, n2, c2, e2, p2, q2, r2, s2⟩ := lab_of_trod (cs := [a4, a5]) rfl (by have h := k2; simp only [hc] at h; exact h)
    obtain ⟨l3, A3, n3, c3, e3, p3, q3, r3, s3⟩ := lab_of_trod (cs := [a6, a7]) rfl (by have h := k3; simp only [hc] at h; exact h)
    simp only [List.cons.injEq, and_true] at e0 e1 e2 e3
    obtain ⟨rfl, rfl⟩ := e0
    obtain ⟨rfl, rfl⟩ := e1
    obtain ⟨rfl, rfl⟩ := e2
    obtain ⟨rfl, rfl⟩ := e3
    exact ⟨⟨l0, l1, l2, l3⟩, A0, n0, c0, A1, n1, c1, A2, n2, c2, A3, n3, c3, rfl, ⟨_, _, _, rfl, p0, q0, r0, s0⟩, ⟨_, _, _, rfl, p1, q1, r1, s1⟩, ⟨_, _, _, rfl, p2, q2, r2, s2⟩, ⟨_, _, _, rfl, p3, q3, r3, s3⟩⟩

theorem open_tm {H : Type} {enc : TypeId × Value → H} {W : World} {base : Nat} {v : Value} {d : DataW H} {p : List MemPlace}
    (hv : Value.okWide Tryd.prog W .any base 47 v) (h : DataW.Trod enc Tryd.prog W 0 (fun _ => true) true 47 v d p) : ∃ t, ArgTm W v t := by
  obtain ⟨cs, rfl, hsz⟩ := okWide_struct Tryd.underlying47 hv
  obtain ⟨fuel, hf⟩ := h
  have hl : cs.toList.length = 8 := by rw [Array.length_toList, hsz]; kernel_rfl
  obtain ⟨t, ht⟩ := tm_of_trod (cs := cs.toList) hl (by simpa [Value.cells] using hf)
  exact ⟨t, by simpa using ht⟩
end Go.Proofs.YtedaknjjcdlpnaaDoor
